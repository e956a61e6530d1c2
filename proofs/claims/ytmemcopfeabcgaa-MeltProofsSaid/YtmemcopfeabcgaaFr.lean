/- Reasons of a proof: melt.claim.firstReason. -/
import Derived.Test.YtmemcopfeabcgaaBr
set_option linter.unusedSimpArgs false
set_option linter.unusedVariables false
namespace Go.Proofs.Ytmemcopfeabcgaa
open Go Go.RowKit
theorem reasons_any (w : World) :
  Calls Try.prog 101 #[] w fun e w' => (e = .returned (.slice (some ⟨w.heap.size,0,none⟩) 4 4) ∧ Bx w' w.heap.size 139 #[.func (.func 104) #[] #[],.func (.func 105) #[] #[],.func (.func 106) #[] #[],.func (.func 107) #[] #[]]) ∧ Below w.heap.size w w':=by
 go_enter Try.func101,Try.ntmps101
 go_wp2_with fail
 go_ret
 exact ⟨⟨rfl,Bx.new _ _ _⟩,(Below.refl _ _).alloc (Nat.le_refl _) _⟩
theorem find_at {f : Nat → Bool} {n j : Nat} (hj : j < n) (h : ∀ i,i < j → f i = false) (h1 : f j = true) : (List.range n).find? f = some j:=by
 rw [List.find?_eq_some_iff_append]
 refine ⟨h1,List.range j,(List.range (n - j - 1)).map (fun i => i + (j + 1)),?_,fun i hi => by simp [h i (List.mem_range.1 hi)]⟩
 have e : n = j + (1 + (n - j - 1)):=by omega
 apply List.ext_getElem?
 intro k
 simp only [List.getElem?_range',List.getElem?_append,List.length_range,List.getElem?_cons,List.getElem?_map]
 by_cases hk : k < j
 ·simp [hk,List.getElem?_range (show k < n by omega)]
 ·rw [if_neg hk]
  by_cases hk2 : k - j = 0
  ·rw [if_pos hk2]
   have : k = j:=by omega
   subst this
   simp [hj]
  ·rw [if_neg hk2]
   by_cases hkn : k < n
   ·rw [List.getElem?_range hkn,List.getElem?_range (show k - j - 1 < n - j - 1 by omega)]
    simp; omega
   ·rw [List.getElem?_eq_none (by simp; omega),List.getElem?_eq_none (by simp; omega)]
    rfl
theorem find_no {f : Nat → Bool} {n : Nat} (h : ∀ i,i < n → f i = false) : (List.range n).find? f = none:=by
 rw [List.find?_eq_none]
 intro i hi
 simp [h i (List.mem_range.1 hi)]
/-- What firstReason returns. -/
def reasonV (o : Od) (p : Int) (lo hi : Nat → Int) : Value:=match reason o p lo hi with
 | some r => .tuple #[.agg #[.int .i64 r.rs,.int .i64 r.at_,.int .i64 r.ct],.bool true]
 | none => .tuple #[.agg #[.int .i64 0,.int .i64 0,.int .i64 0],.bool false]
/-- The first reasons are not right. -/
def NotYet (o : Od) (p : Int) (lo hi : Nat → Int) (k : Nat) : Prop :=
 (1 ≤ k → isL o hi = false) ∧ (2 ≤ k → isH o lo = false) ∧ (3 ≤ k → ∀ j,j < o.lm.length → isB o lo hi j = false) ∧ (4 ≤ k → isD o p lo = false)
theorem reason0 {o : Od} {p : Int} {lo hi : Nat → Int} (h : isL o hi = true) : reason o p lo hi = some ⟨2,0,0⟩:=by unfold reason; rw [if_pos h]
theorem reason1 {o : Od} {p : Int} {lo hi : Nat → Int} (hn : NotYet o p lo hi 1) (h : isH o lo = true) : reason o p lo hi = some ⟨3,0,0⟩:=by
 unfold reason; rw [hn.1 (by omega),if_neg (by simp),if_pos h]
theorem reason2 {o : Od} {p : Int} {lo hi : Nat → Int} (hn : NotYet o p lo hi 2) {j : Nat} (hj : j < o.lm.length) (hl : ∀ i,i < j → isB o lo hi i = false) (h : isB o lo hi j = true) : reason o p lo hi = some ⟨4,j,0⟩:=by
 unfold reason; rw [hn.1 (by omega),hn.2.1 (by omega),if_neg (by simp),if_neg (by simp),find_at hj hl h]
theorem reason3 {o : Od} {p : Int} {lo hi : Nat → Int} (hn : NotYet o p lo hi 3) (h : isD o p lo = true) : reason o p lo hi = some ⟨5,0,0⟩:=by
 unfold reason; rw [hn.1 (by omega),hn.2.1 (by omega),if_neg (by simp),if_neg (by simp),find_no (hn.2.2.1 (by omega)),h]; rfl
theorem reason4 {o : Od} {p : Int} {lo hi : Nat → Int} (hn : NotYet o p lo hi 4) : reason o p lo hi = none:=by
 unfold reason; rw [hn.1 (by omega),hn.2.1 (by omega),if_neg (by simp),if_neg (by simp),find_no (hn.2.2.1 (by omega)),hn.2.2.2 (by omega)]; rfl
theorem Bx.three {w : World} {g : Nat} {t : TypeId} {x y z : Value} (h : Bx w g t #[x,y,z]) : w.cell? ⟨g,0,none⟩ = some x ∧ w.cell? ⟨g,1,none⟩ = some y ∧ w.cell? ⟨g,2,none⟩ = some z ∧ (∀ o,w.frozen? ⟨g,o,none⟩ = false) ∧ g < w.heap.size:=⟨h.cell 0,h.cell 1,h.cell 2,h.free,h.lt⟩
set_option maxRecDepth 100000 in
set_option maxHeartbeats 4000000 in
theorem firstReason_any (LA : Option Addr) (ln lc : Nat) (BA : Option Addr) (bn bc : Nat) (o : Od) (p : Int) (lo hi : Nat → Int) (w : World) (hl : o.lm.length = ln) (hb' : o.bs.length = bn) (hA : OrdAt w w.heap.size LA BA o) (ho : o.Ok) (hbx : BoxOk lo hi) :
  Calls Try.prog 97 #[.agg #[.slice LA ln lc,.int .i64 o.le,.int .i64 o.mo,.slice BA bn bc,.int .i64 p],.agg (xarr lo hi)] w fun e w' => e = .returned (reasonV o p lo hi) ∧ Below w.heap.size w w':=by
 have K1:=((Bx.new w 100 #[.slice LA ln lc,.int .i64 o.le,.int .i64 o.mo,.slice BA bn bc,.int .i64 p]).alloc (.cells (xarr lo hi) 91)).alloc (.cells #[.int .i64 0,.int .i64 0,.int .i64 0] 69)
 have K2:=(Bx.at (w.alloc (.cells #[.slice LA ln lc,.int .i64 o.le,.int .i64 o.mo,.slice BA bn bc,.int .i64 p] 100)) 91 (xarr lo hi) (n:=w.heap.size + 1) (by simp)).alloc (.cells #[.int .i64 0,.int .i64 0,.int .i64 0] 69)
 have K3:=Bx.at ((w.alloc (.cells #[.slice LA ln lc,.int .i64 o.le,.int .i64 o.mo,.slice BA bn bc,.int .i64 p] 100)).alloc (.cells (xarr lo hi) 91)) 69 #[.int .i64 0,.int .i64 0,.int .i64 0] (n:=w.heap.size + 1 + 1) (by simp)
 have B0:=(((Below.refl w.heap.size w).alloc (Nat.le_refl _) (.cells #[.slice LA ln lc,.int .i64 o.le,.int .i64 o.mo,.slice BA bn bc,.int .i64 p] 100)).alloc (by simp) (.cells (xarr lo hi) 91)).alloc (by simp; omega) (.cells #[.int .i64 0,.int .i64 0,.int .i64 0] 69)
 have hln3 : ln ≤ 3:=by rw [← hl]; exact ho.lm
 have HB:=Lib.hid hb'
 have HL:=Lib.hid hl
 have HO:=Lib.hid ho
 have HX:=Lib.hid hbx
 clear hb' hl ho hbx
 obtain ⟨W1,hW1⟩ : ∃ W1,((w.alloc (.cells #[.slice LA ln lc,.int .i64 o.le,.int .i64 o.mo,.slice BA bn bc,.int .i64 p] 100)).alloc (.cells (xarr lo hi) 91)).alloc (.cells #[.int .i64 0,.int .i64 0,.int .i64 0] 69) = W1:=⟨_,rfl⟩
 rw [hW1] at K1 K2 K3 B0
 have HW:=Lib.hid hW1
 clear hW1
 go_enter Try.func97,Try.ntmps97
 go_wp2_with (go_at_call 101; rw [HW.out]; refine (reasons_any _).mono ?_; rintro e w1 ⟨⟨rfl,k4⟩,hb1⟩; replace K1:=K1.call hb1; replace K2:=K2.call hb1; replace K3:=K3.call hb1; replace B0:=B0.trans (hb1.mono B0.size))
 obtain ⟨g,hg⟩ : ∃ g,W1.heap.size = g:=⟨_,rfl⟩
 rw [hg] at k4 ⊢
 clear hg hb1
 go_loopw [12] (fun i W => ∃ (k : Nat) (z : Int),k ≤ 4 ∧ z = k ∧ i = .int .i64 z ∧ Hid (NotYet o p lo hi k) ∧ Bx W w.heap.size 100 #[.slice LA ln lc,.int .i64 o.le,.int .i64 o.mo,.slice BA bn bc,.int .i64 p] ∧ Bx W (w.heap.size + 1) 91 (xarr lo hi) ∧ Bx W (w.heap.size + 1 + 1) 69 #[.int .i64 0,.int .i64 0,.int .i64 0] ∧ Bx W g 139 #[.func (.func 104) #[] #[],.func (.func 105) #[] #[],.func (.func 106) #[] #[],.func (.func 107) #[] #[]] ∧ Below w.heap.size w W) (fun i _ => 4 - (intOf i).toNat)
 case atStart => exact ⟨0,0,by omega,rfl,rfl,Lib.hid ⟨fun h => absurd h (by omega),fun h => absurd h (by omega),fun h => absurd h (by omega),fun h => absurd h (by omega)⟩,K1,K2,K3,k4,B0⟩
 case round =>
  clear K1 K2 K3 k4 B0
  obtain ⟨k,z,hk,hz,rfl,hny,k1,k2,k3,k4,hB⟩:=hrel
  rcases (show k = 0 ∨ k = 1 ∨ k = 2 ∨ k = 3 ∨ k = 4 by omega) with rfl | rfl | rfl | rfl | rfl
  ·obtain rfl : z = 0:=hz
   obtain ⟨f0,f1,f2,f3,ff,fz⟩:=k4.four
   obtain ⟨c0,c1,c2,c3,c4,cf,cz⟩:=k1.five
   go_wp2_with (go_at_call 102; refine (placesOf_any LA ln lc BA bn bc o p 2 _).mono ?_; rintro e wp ⟨rfl,hbp⟩; replace k1:=k1.call hbp; replace k2:=k2.call hbp; replace k3:=k3.call hbp; replace k4:=k4.call hbp; replace hB:=hB.trans (hbp.mono hB.size); simp only [show ((2 : Int) = 4) = False by simp,if_true,if_false])
   go_loopw [22] (fun i W => ∃ (m : Nat) (zz : Int),m ≤ 1 ∧ zz = m ∧ i = .int .i64 zz ∧ Hid (1 ≤ m → isL o hi = false) ∧ Bx W w.heap.size 100 #[.slice LA ln lc,.int .i64 o.le,.int .i64 o.mo,.slice BA bn bc,.int .i64 p] ∧ Bx W (w.heap.size + 1) 91 (xarr lo hi) ∧ Bx W (w.heap.size + 1 + 1) 69 #[.int .i64 0,.int .i64 0,.int .i64 0] ∧ Bx W g 139 #[.func (.func 104) #[] #[],.func (.func 105) #[] #[],.func (.func 106) #[] #[],.func (.func 107) #[] #[]] ∧ Below w.heap.size w W) (fun i _ => 1 - (intOf i).toNat)
   case atStart => exact ⟨0,0,by omega,rfl,rfl,Lib.hid (fun h => absurd h (by omega)),k1,k2,k3,k4,hB⟩
   case round =>
    clear k1 k2 k3 k4 hB f0 f1 f2 f3 ff fz c0 c1 c2 c3 c4 cf cz
    obtain ⟨m,zz,hm,hzz,rfl,hpr,k1,k2,k3,k4,hB⟩:=hrel
    obtain ⟨c0,c1,c2,c3,c4,cf,cz⟩:=k1.five
    obtain ⟨p0,p1,p2,p3,p4,p5,p6,p7,pf,pz⟩:=k2.xarr
    by_cases hmn : m < 1
    ·obtain rfl : zz = (m : Int):=hzz
     have hmi : (m : Int) < (1 : Nat):=by omega
     by_cases hb : isL o hi = true
     ·have hR : Hid (reasonV o p lo hi = .tuple #[.agg #[.int .i64 2,.int .i64 (m : Int),.int .i64 0],.bool true]):=by
       unfold Hid reasonV
       rw [reason0 hb]
       obtain rfl : m = 0:=by omega
       rfl
      have HBB:=Lib.hid hb
      clear hb
      go_wp2_with (go_at_call 104; rw [← xarr_def lo hi]; refine (isLight_any LA ln lc BA bn bc o p lo hi (m : Int) _ HL.out HB.out ((hA.below hB).more hB.size) HO.out HX.out).mono ?_; rintro e wq ⟨rfl,hbq⟩; rw [HBB.out]; replace k3:=k3.call hbq; replace hB:=hB.trans (hbq.mono hB.size); obtain ⟨b0,b1,b2,bf,bz⟩:=k3.three)
      refine bodyPost_ret (v:=.tuple #[.agg #[.int .i64 2,.int .i64 (m : Int),.int .i64 0],.bool true]) (by simp [results,Try.results97,go_sem,b0,b1,b2,bf]) rfl ⟨by rw [hR.out],?_⟩
      exact ((hB.setCell (by simp; omega) _).setCell (by simp; omega) _).setCell (by simp; omega) _
     ·have hno : Hid (1 ≤ m + 1 → isL o hi = false):=Lib.hid fun _ => Bool.eq_false_iff.2 hb
      have HBB:=Lib.hid (Bool.eq_false_iff.2 hb)
      clear hb
      go_wp2_with (go_at_call 104; rw [← xarr_def lo hi]; refine (isLight_any LA ln lc BA bn bc o p lo hi (m : Int) _ HL.out HB.out ((hA.below hB).more hB.size) HO.out HX.out).mono ?_; rintro e wq ⟨rfl,hbq⟩; rw [HBB.out])
      go_roundw
      case rel => exact ⟨m + 1,(m : Int) + 1,by omega,by omega,by go_num,hno,k1.call hbq,k2.call hbq,k3.call hbq,k4.call hbq,hB.trans (hbq.mono hB.size)⟩
      case measure => simp [intOf]; omega
    ·obtain rfl : m = 1:=by omega
     subst hzz
     have hny' : Hid (NotYet o p lo hi 1):=Lib.hid ⟨fun _ => hpr.out (by omega),fun h => absurd h (by omega),fun h => absurd h (by omega),fun h => absurd h (by omega)⟩
     go_wp2_with fail
     go_roundw
     case rel => exact ⟨1,1,by omega,rfl,rfl,hny',k1,k2,k3,k4,hB⟩
     case measure => simp [intOf]
  ·obtain rfl : z = 1:=hz
   obtain ⟨f0,f1,f2,f3,ff,fz⟩:=k4.four
   obtain ⟨c0,c1,c2,c3,c4,cf,cz⟩:=k1.five
   go_wp2_with (go_at_call 102; refine (placesOf_any LA ln lc BA bn bc o p 3 _).mono ?_; rintro e wp ⟨rfl,hbp⟩; replace k1:=k1.call hbp; replace k2:=k2.call hbp; replace k3:=k3.call hbp; replace k4:=k4.call hbp; replace hB:=hB.trans (hbp.mono hB.size); simp only [show ((3 : Int) = 4) = False by simp,if_true,if_false])
   go_loopw [22] (fun i W => ∃ (m : Nat) (zz : Int),m ≤ 1 ∧ zz = m ∧ i = .int .i64 zz ∧ Hid (1 ≤ m → isH o lo = false) ∧ Bx W w.heap.size 100 #[.slice LA ln lc,.int .i64 o.le,.int .i64 o.mo,.slice BA bn bc,.int .i64 p] ∧ Bx W (w.heap.size + 1) 91 (xarr lo hi) ∧ Bx W (w.heap.size + 1 + 1) 69 #[.int .i64 0,.int .i64 0,.int .i64 0] ∧ Bx W g 139 #[.func (.func 104) #[] #[],.func (.func 105) #[] #[],.func (.func 106) #[] #[],.func (.func 107) #[] #[]] ∧ Below w.heap.size w W) (fun i _ => 1 - (intOf i).toNat)
   case atStart => exact ⟨0,0,by omega,rfl,rfl,Lib.hid (fun h => absurd h (by omega)),k1,k2,k3,k4,hB⟩
   case round =>
    clear k1 k2 k3 k4 hB f0 f1 f2 f3 ff fz c0 c1 c2 c3 c4 cf cz
    obtain ⟨m,zz,hm,hzz,rfl,hpr,k1,k2,k3,k4,hB⟩:=hrel
    obtain ⟨c0,c1,c2,c3,c4,cf,cz⟩:=k1.five
    obtain ⟨p0,p1,p2,p3,p4,p5,p6,p7,pf,pz⟩:=k2.xarr
    by_cases hmn : m < 1
    ·obtain rfl : zz = (m : Int):=hzz
     have hmi : (m : Int) < (1 : Nat):=by omega
     by_cases hb : isH o lo = true
     ·have hR : Hid (reasonV o p lo hi = .tuple #[.agg #[.int .i64 3,.int .i64 (m : Int),.int .i64 0],.bool true]):=by
       unfold Hid reasonV
       rw [reason1 hny.out hb]
       obtain rfl : m = 0:=by omega
       rfl
      have HBB:=Lib.hid hb
      clear hb
      go_wp2_with (go_at_call 105; rw [← xarr_def lo hi]; refine (isHeavy_any LA ln lc BA bn bc o p lo hi (m : Int) _ HL.out HB.out ((hA.below hB).more hB.size) HO.out HX.out).mono ?_; rintro e wq ⟨rfl,hbq⟩; rw [HBB.out]; replace k3:=k3.call hbq; replace hB:=hB.trans (hbq.mono hB.size); obtain ⟨b0,b1,b2,bf,bz⟩:=k3.three)
      refine bodyPost_ret (v:=.tuple #[.agg #[.int .i64 3,.int .i64 (m : Int),.int .i64 0],.bool true]) (by simp [results,Try.results97,go_sem,b0,b1,b2,bf]) rfl ⟨by rw [hR.out],?_⟩
      exact ((hB.setCell (by simp; omega) _).setCell (by simp; omega) _).setCell (by simp; omega) _
     ·have hno : Hid (1 ≤ m + 1 → isH o lo = false):=Lib.hid fun _ => Bool.eq_false_iff.2 hb
      have HBB:=Lib.hid (Bool.eq_false_iff.2 hb)
      clear hb
      go_wp2_with (go_at_call 105; rw [← xarr_def lo hi]; refine (isHeavy_any LA ln lc BA bn bc o p lo hi (m : Int) _ HL.out HB.out ((hA.below hB).more hB.size) HO.out HX.out).mono ?_; rintro e wq ⟨rfl,hbq⟩; rw [HBB.out])
      go_roundw
      case rel => exact ⟨m + 1,(m : Int) + 1,by omega,by omega,by go_num,hno,k1.call hbq,k2.call hbq,k3.call hbq,k4.call hbq,hB.trans (hbq.mono hB.size)⟩
      case measure => simp [intOf]; omega
    ·obtain rfl : m = 1:=by omega
     subst hzz
     have hny' : Hid (NotYet o p lo hi 2):=Lib.hid ⟨fun _ => hny.out.1 (by omega),fun _ => hpr.out (by omega),fun h => absurd h (by omega),fun h => absurd h (by omega)⟩
     go_wp2_with fail
     go_roundw
     case rel => exact ⟨2,2,by omega,rfl,rfl,hny',k1,k2,k3,k4,hB⟩
     case measure => simp [intOf]
  ·obtain rfl : z = 2:=hz
   obtain ⟨f0,f1,f2,f3,ff,fz⟩:=k4.four
   obtain ⟨c0,c1,c2,c3,c4,cf,cz⟩:=k1.five
   go_wp2_with (go_at_call 102; refine (placesOf_any LA ln lc BA bn bc o p 4 _).mono ?_; rintro e wp ⟨rfl,hbp⟩; replace k1:=k1.call hbp; replace k2:=k2.call hbp; replace k3:=k3.call hbp; replace k4:=k4.call hbp; replace hB:=hB.trans (hbp.mono hB.size); simp only [show ((4 : Int) = 4) = True by simp,if_true,if_false])
   go_loopw [22] (fun i W => ∃ (m : Nat) (zz : Int),m ≤ ln ∧ zz = m ∧ i = .int .i64 zz ∧ Hid (∀ j,j < m → isB o lo hi j = false) ∧ Bx W w.heap.size 100 #[.slice LA ln lc,.int .i64 o.le,.int .i64 o.mo,.slice BA bn bc,.int .i64 p] ∧ Bx W (w.heap.size + 1) 91 (xarr lo hi) ∧ Bx W (w.heap.size + 1 + 1) 69 #[.int .i64 0,.int .i64 0,.int .i64 0] ∧ Bx W g 139 #[.func (.func 104) #[] #[],.func (.func 105) #[] #[],.func (.func 106) #[] #[],.func (.func 107) #[] #[]] ∧ Below w.heap.size w W) (fun i _ => ln - (intOf i).toNat)
   case atStart => exact ⟨0,0,by omega,rfl,rfl,Lib.hid (fun j hj => absurd hj (by omega)),k1,k2,k3,k4,hB⟩
   case round =>
    clear k1 k2 k3 k4 hB f0 f1 f2 f3 ff fz c0 c1 c2 c3 c4 cf cz
    obtain ⟨m,zz,hm,hzz,rfl,hpr,k1,k2,k3,k4,hB⟩:=hrel
    obtain ⟨c0,c1,c2,c3,c4,cf,cz⟩:=k1.five
    obtain ⟨p0,p1,p2,p3,p4,p5,p6,p7,pf,pz⟩:=k2.xarr
    by_cases hmn : m < ln
    ·obtain rfl : zz = (m : Int):=hzz
     have hmi : (m : Int) < (ln : Nat):=by omega
     by_cases hb : isB o lo hi m = true
     ·have hR : Hid (reasonV o p lo hi = .tuple #[.agg #[.int .i64 4,.int .i64 (m : Int),.int .i64 0],.bool true]):=by
       unfold Hid reasonV
       rw [reason2 hny.out (by rw [HL.out]; exact hmn) hpr.out hb]
      have HBB:=Lib.hid hb
      clear hb
      go_wp2_with (go_at_call 106; rw [← xarr_def lo hi]; refine (isBroken_any LA ln lc BA bn bc o p lo hi m _ HL.out HB.out ((hA.below hB).more hB.size) HO.out HX.out hmn).mono ?_; rintro e wq ⟨rfl,hbq⟩; rw [HBB.out]; replace k3:=k3.call hbq; replace hB:=hB.trans (hbq.mono hB.size); obtain ⟨b0,b1,b2,bf,bz⟩:=k3.three)
      refine bodyPost_ret (v:=.tuple #[.agg #[.int .i64 4,.int .i64 (m : Int),.int .i64 0],.bool true]) (by simp [results,Try.results97,go_sem,b0,b1,b2,bf]) rfl ⟨by rw [hR.out],?_⟩
      exact ((hB.setCell (by simp; omega) _).setCell (by simp; omega) _).setCell (by simp; omega) _
     ·have hno : Hid (∀ j,j < m + 1 → isB o lo hi j = false):=Lib.hid (fun j hj => (Nat.lt_or_eq_of_le (Nat.le_of_lt_succ hj)).elim (fun h => hpr.out j h) (fun h => h ▸ Bool.eq_false_iff.2 hb))
      have HBB:=Lib.hid (Bool.eq_false_iff.2 hb)
      clear hb
      go_wp2_with (go_at_call 106; rw [← xarr_def lo hi]; refine (isBroken_any LA ln lc BA bn bc o p lo hi m _ HL.out HB.out ((hA.below hB).more hB.size) HO.out HX.out hmn).mono ?_; rintro e wq ⟨rfl,hbq⟩; rw [HBB.out])
      go_roundw
      case rel => exact ⟨m + 1,(m : Int) + 1,by omega,by omega,by go_num,hno,k1.call hbq,k2.call hbq,k3.call hbq,k4.call hbq,hB.trans (hbq.mono hB.size)⟩
      case measure => simp [intOf]; omega
    ·obtain rfl : m = ln:=by omega
     subst hzz
     have hny' : Hid (NotYet o p lo hi 3):=Lib.hid ⟨fun _ => hny.out.1 (by omega),fun _ => hny.out.2.1 (by omega),fun _ j hj => hpr.out j (by rw [HL.out] at hj; omega),fun h => absurd h (by omega)⟩
     go_wp2_with fail
     go_roundw
     case rel => exact ⟨3,3,by omega,rfl,rfl,hny',k1,k2,k3,k4,hB⟩
     case measure => simp [intOf]
  ·obtain rfl : z = 3:=hz
   obtain ⟨f0,f1,f2,f3,ff,fz⟩:=k4.four
   obtain ⟨c0,c1,c2,c3,c4,cf,cz⟩:=k1.five
   go_wp2_with (go_at_call 102; refine (placesOf_any LA ln lc BA bn bc o p 5 _).mono ?_; rintro e wp ⟨rfl,hbp⟩; replace k1:=k1.call hbp; replace k2:=k2.call hbp; replace k3:=k3.call hbp; replace k4:=k4.call hbp; replace hB:=hB.trans (hbp.mono hB.size); simp only [show ((5 : Int) = 4) = False by simp,if_true,if_false])
   go_loopw [22] (fun i W => ∃ (m : Nat) (zz : Int),m ≤ 1 ∧ zz = m ∧ i = .int .i64 zz ∧ Hid (1 ≤ m → isD o p lo = false) ∧ Bx W w.heap.size 100 #[.slice LA ln lc,.int .i64 o.le,.int .i64 o.mo,.slice BA bn bc,.int .i64 p] ∧ Bx W (w.heap.size + 1) 91 (xarr lo hi) ∧ Bx W (w.heap.size + 1 + 1) 69 #[.int .i64 0,.int .i64 0,.int .i64 0] ∧ Bx W g 139 #[.func (.func 104) #[] #[],.func (.func 105) #[] #[],.func (.func 106) #[] #[],.func (.func 107) #[] #[]] ∧ Below w.heap.size w W) (fun i _ => 1 - (intOf i).toNat)
   case atStart => exact ⟨0,0,by omega,rfl,rfl,Lib.hid (fun h => absurd h (by omega)),k1,k2,k3,k4,hB⟩
   case round =>
    clear k1 k2 k3 k4 hB f0 f1 f2 f3 ff fz c0 c1 c2 c3 c4 cf cz
    obtain ⟨m,zz,hm,hzz,rfl,hpr,k1,k2,k3,k4,hB⟩:=hrel
    obtain ⟨c0,c1,c2,c3,c4,cf,cz⟩:=k1.five
    obtain ⟨p0,p1,p2,p3,p4,p5,p6,p7,pf,pz⟩:=k2.xarr
    by_cases hmn : m < 1
    ·obtain rfl : zz = (m : Int):=hzz
     have hmi : (m : Int) < (1 : Nat):=by omega
     by_cases hb : isD o p lo = true
     ·have hR : Hid (reasonV o p lo hi = .tuple #[.agg #[.int .i64 5,.int .i64 (m : Int),.int .i64 0],.bool true]):=by
       unfold Hid reasonV
       rw [reason3 hny.out hb]
       obtain rfl : m = 0:=by omega
       rfl
      have HBB:=Lib.hid hb
      clear hb
      go_wp2_with (go_at_call 107; rw [← xarr_def lo hi]; refine (isDear_any LA ln lc BA bn bc o p lo hi (m : Int) _ HL.out HB.out ((hA.below hB).more hB.size) HO.out HX.out).mono ?_; rintro e wq ⟨rfl,hbq⟩; rw [HBB.out]; replace k3:=k3.call hbq; replace hB:=hB.trans (hbq.mono hB.size); obtain ⟨b0,b1,b2,bf,bz⟩:=k3.three)
      refine bodyPost_ret (v:=.tuple #[.agg #[.int .i64 5,.int .i64 (m : Int),.int .i64 0],.bool true]) (by simp [results,Try.results97,go_sem,b0,b1,b2,bf]) rfl ⟨by rw [hR.out],?_⟩
      exact ((hB.setCell (by simp; omega) _).setCell (by simp; omega) _).setCell (by simp; omega) _
     ·have hno : Hid (1 ≤ m + 1 → isD o p lo = false):=Lib.hid fun _ => Bool.eq_false_iff.2 hb
      have HBB:=Lib.hid (Bool.eq_false_iff.2 hb)
      clear hb
      go_wp2_with (go_at_call 107; rw [← xarr_def lo hi]; refine (isDear_any LA ln lc BA bn bc o p lo hi (m : Int) _ HL.out HB.out ((hA.below hB).more hB.size) HO.out HX.out).mono ?_; rintro e wq ⟨rfl,hbq⟩; rw [HBB.out])
      go_roundw
      case rel => exact ⟨m + 1,(m : Int) + 1,by omega,by omega,by go_num,hno,k1.call hbq,k2.call hbq,k3.call hbq,k4.call hbq,hB.trans (hbq.mono hB.size)⟩
      case measure => simp [intOf]; omega
    ·obtain rfl : m = 1:=by omega
     subst hzz
     have hny' : Hid (NotYet o p lo hi 4):=Lib.hid ⟨fun _ => hny.out.1 (by omega),fun _ => hny.out.2.1 (by omega),fun _ => hny.out.2.2.1 (by omega),fun _ => hpr.out (by omega)⟩
     go_wp2_with fail
     go_roundw
     case rel => exact ⟨4,4,by omega,rfl,rfl,hny',k1,k2,k3,k4,hB⟩
     case measure => simp [intOf]
  ·obtain rfl : z = 4:=hz
   have hR : Hid (reasonV o p lo hi = .tuple #[.agg #[.int .i64 0,.int .i64 0,.int .i64 0],.bool false]):=by unfold Hid reasonV; rw [reason4 hny.out]
   obtain ⟨b0,b1,b2,bf,bz⟩:=k3.three
   go_wp2_with fail
   refine bodyPost_ret (v:=.tuple #[.agg #[.int .i64 0,.int .i64 0,.int .i64 0],.bool false]) (by simp [results,Try.results97,go_sem,b0,b1,b2,bf]) rfl ⟨by rw [hR.out],?_⟩
   exact ((hB.setCell (by simp; omega) _).setCell (by simp; omega) _).setCell (by simp; omega) _
end Go.Proofs.Ytmemcopfeabcgaa
