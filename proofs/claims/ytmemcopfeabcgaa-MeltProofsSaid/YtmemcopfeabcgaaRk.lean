/- The reference of layer 6: from, Kilos, Cost, holds, Good. -/
import Derived.Test.YtmemcopfeabcgaaMsM
set_option linter.unusedSimpArgs false
set_option linter.unusedVariables false
namespace Go.Proofs.Ytmemcopfeabcgaa
open Go Go.RowKit
theorem from65_any (n lo hi : Int) (w : World) : Calls Try.prog 65 #[.int .i64 n,.int .i64 lo,.int .i64 hi] w fun e w' => e = .returned (.bool (decide (lo ≤ n ∧ n ≤ hi))) ∧ Below w.heap.size w w':=by
 by_cases h1 : lo ≤ n
 ·by_cases h2 : n ≤ hi
  ·have d1 : decide (lo ≤ n) = true:=decide_eq_true h1
   have d2 : decide (n ≤ hi) = true:=decide_eq_true h2
   have e : decide (lo ≤ n ∧ n ≤ hi) = true:=decide_eq_true ⟨h1,h2⟩
   rw [e]
   clear h1 h2 e
   go_enter Try.func65,Try.ntmps65
   go_wp2_with fail
   go_ret
   exact ⟨rfl,Below.refl _ _⟩
  ·have d1 : decide (lo ≤ n) = true:=decide_eq_true h1
   have d2 : decide (n ≤ hi) = false:=decide_eq_false h2
   have e : decide (lo ≤ n ∧ n ≤ hi) = false:=decide_eq_false fun h => h2 h.2
   rw [e]
   clear h1 h2 e
   go_enter Try.func65,Try.ntmps65
   go_wp2_with fail
   go_ret
   exact ⟨rfl,Below.refl _ _⟩
 ·have d1 : decide (lo ≤ n) = false:=decide_eq_false h1
  have e : decide (lo ≤ n ∧ n ≤ hi) = false:=decide_eq_false fun h => h1 h.1
  rw [e]
  clear h1 e
  go_enter Try.func65,Try.ntmps65
  go_wp2_with fail
  go_ret
  exact ⟨rfl,Below.refl _ _⟩
theorem lf_at {BL : List Int} {i : Nat} (h : i < BL.length) : BL[i] = lf BL i:=by unfold lf; rw [List.getD_eq_getElem?_getD,List.getElem?_eq_getElem h]; rfl
set_option maxRecDepth 100000 in
set_option maxHeartbeats 4000000 in
theorem refKilos_any (LA : Option Addr) (ln lc : Nat) (BA : Option Addr) (bn bc : Nat) (o : Od) (SA : Option Addr) (n sc : Nat) (BL : List Int) (w : World) (hb' : o.bs.length = bn) (hA : OrdAt w w.heap.size LA BA o) (ho : o.Ok) (hL : BL.length = n) (hn : n ≤ bn) (hS : Sl w w.heap.size 1 SA (inr BL)) (h6 : Six (lf BL)) :
  Calls Try.prog 66 #[.agg #[.slice LA ln lc,.int .i64 o.le,.int .i64 o.mo,.slice BA bn bc],.slice SA n sc] w fun e w' => e = .returned (.int .i64 (kil o (lf BL) n)) ∧ Below w.heap.size w w':=by
 have hbn4 : bn ≤ 4:=by rw [← hb']; exact ho.b2
 have k1:=Bx.new w 27 #[.slice LA ln lc,.int .i64 o.le,.int .i64 o.mo,.slice BA bn bc]
 have B0:=(Below.refl w.heap.size w).alloc (Nat.le_refl _) (.cells #[.slice LA ln lc,.int .i64 o.le,.int .i64 o.mo,.slice BA bn bc] 27)
 obtain ⟨V,hV⟩ : ∃ V,w.alloc (.cells #[.slice LA ln lc,.int .i64 o.le,.int .i64 o.mo,.slice BA bn bc] 27) = V:=⟨_,rfl⟩
 have hA1:=hA.call B0
 have hS1:=hS.call B0
 rw [hV] at k1 B0 hA1 hS1
 have HB:=Lib.hid hb'
 have HO:=Lib.hid ho
 have HL:=Lib.hid hL
 have H6:=Lib.hid h6
 have HV:=Lib.hid hV
 clear hV hb' ho hL hA hS h6
 go_enter Try.func66,Try.ntmps66
 go_upto_region 1 with fail
 rw [HV.out]
 go_wp2_with fail
 go_loopw [5,6] (fun s v wr => ∃ (i : Nat),v = .int .i64 i ∧ i ≤ n ∧ s = .int .i64 (kil o (lf BL) i) ∧ Below V.heap.size V wr) (fun _ v _ => n - (intOf v).toNat)
 case atStart => exact ⟨0,rfl,by omega,rfl,Below.refl _ _⟩
 case round =>
  obtain ⟨i,rfl,hi,rfl,hBr⟩:=hrel
  by_cases hin : i < n
  ·have hil : i < BL.length:=by rw [HL.out]; exact hin
   have hio : i < o.bs.length:=by rw [HB.out]; omega
   have hib : i < bn:=by omega
   obtain ⟨sa,rfl,hsa,hsc⟩:=inr_at hS1 hil
   rw [lf_at hil] at hsc
   obtain ⟨ba,G,gc,rfl,hba,p0,p1,p2,p3,-⟩:=hA1.bs.at_ hio
   rw [Od.bn_eq hio] at p0 p1 p2 p3
   have hbd:=w_bd HO.out H6.out hio
   have hsb:=kil_bd HO.out H6.out (k:=i) (by omega)
   have hiw : IntKind.i64.wrap ((i : Int) + 1) = (i : Int) + 1:=IntWalk.i64_in _ (by omega)
   obtain ⟨sv,hsv⟩ : ∃ x,kil o (lf BL) i = x:=⟨_,rfl⟩
   have hnx : kil o (lf BL) (i + 1) = sv + lf BL i * (o.bn i).w:=by rw [← hsv]; rfl
   rw [hsv] at hsb ⊢
   have HNX:=Lib.hid hnx
   obtain ⟨x,hx⟩ : ∃ x,lf BL i = x:=⟨_,rfl⟩
   obtain ⟨y,hy⟩ : ∃ x,(o.bn i).w = x:=⟨_,rfl⟩
   rw [hx] at hsc hbd HNX
   rw [hy] at hbd HNX p1
   obtain ⟨P,hP⟩ : ∃ P,x * y = P:=⟨_,rfl⟩
   rw [hP] at hbd HNX
   have hPw : IntKind.i64.wrap P = P:=IntWalk.i64_in _ (by omega)
   have hsw : IntKind.i64.wrap (sv + P) = sv + P:=IntWalk.i64_in _ (by omega)
   clear hnx hsv hx hy
   obtain ⟨l0,l1,l2,l3,lf',lz⟩:=(k1.call hBr).four
   go_wp2_with fail
   clear l0 l1 l2 l3 lf' lz
   refine AnyG.startC (by kernel_rfl) ?_
   refine AnyG.takeP (i:=0) (v:=?_) rfl (by kernel_rfl) (fun _ _ _ h => h) rfl ?_ ?_
   rotate_left
   ·(intro w'; go_simp; try with_reducible rfl)
   try simp only [Act.put,Sp1,Sp2,Sp3,Sp4,Sp5,Sp6]
   refine AnyG.takeP (i:=1) (v:=?_) rfl (by kernel_rfl) (fun _ _ _ h => h) rfl ?_ ?_
   rotate_left
   ·(intro w'; go_simp; try with_reducible rfl)
   try simp only [Act.put,Sp1,Sp2,Sp3,Sp4,Sp5,Sp6]
   refine AnyG.takeP (i:=2) (v:=?_) rfl (by kernel_rfl) (fun _ _ _ h => h) rfl ?_ ?_
   rotate_left
   ·(intro w'; go_simp; try with_reducible rfl)
   try simp only [Act.put,Sp1,Sp2,Sp3,Sp4,Sp5,Sp6]
   refine AnyG.takeP (i:=3) (v:=?_) rfl (by kernel_rfl) (fun _ _ _ h => h) rfl ?_ ?_
   rotate_left
   ·(intro w'; go_simp; try with_reducible rfl)
   try simp only [Act.put,Sp1,Sp2,Sp3,Sp4,Sp5,Sp6]
   refine AnyG.takeP (i:=5) (v:=?_) rfl (by kernel_rfl) (fun _ _ _ h => h) rfl ?_ ?_
   rotate_left
   ·(intro w'; go_simp; try with_reducible rfl)
   try simp only [Act.put,Sp1,Sp2,Sp3,Sp4,Sp5,Sp6]
   refine AnyG.takeP (i:=7) (v:=?_) rfl (by kernel_rfl) (fun _ _ _ h => h) rfl ?_ ?_
   rotate_left
   ·(intro w'; go_simp; try with_reducible rfl)
   try simp only [Act.put,Sp1,Sp2,Sp3,Sp4,Sp5,Sp6]
   refine AnyG.enter (fun w' : World => Below V.heap.size V w') (fun i => true) ?_
   have hS : (fun w' : World => Below V.heap.size V w') (World.drew _):=hBr.drew
   refine AnyG.takeC (i:=4) (v:=?_) rfl (by kernel_rfl) (fun _ _ _ h => h) rfl ?_ hS ?_
   rotate_left
   ·(intro w' hSw; (try dsimp only at hSw); have q:=cellC hSw hsc; go_simp; try with_reducible rfl)
   try simp only [Act.put,Sp1,Sp2,Sp3,Sp4,Sp5,Sp6]
   refine AnyG.takeC (i:=6) (v:=?_) rfl (by kernel_rfl) (fun _ _ _ h => h) rfl ?_ hS ?_
   rotate_left
   ·(intro w' hSw; (try dsimp only at hSw); obtain ⟨l0,l1,l2,l3,lf2,lz⟩:=(k1.call hSw).four; go_simp; try with_reducible rfl)
   try simp only [Act.put,Sp1,Sp2,Sp3,Sp4,Sp5,Sp6]
   refine AnyG.takeC (i:=8) (v:=?_) rfl (by kernel_rfl) (fun _ _ _ h => h) rfl ?_ hS ?_
   rotate_left
   ·(intro w' hSw; (try dsimp only at hSw); go_simp; try with_reducible rfl)
   try simp only [Act.put,Sp1,Sp2,Sp3,Sp4,Sp5,Sp6]
   refine AnyG.takeC (i:=9) (v:=?_) rfl (by kernel_rfl) (fun _ _ _ h => h) rfl ?_ hS ?_
   rotate_left
   ·(intro w' hSw; (try dsimp only at hSw); go_simp; try with_reducible rfl)
   try simp only [Act.put,Sp1,Sp2,Sp3,Sp4,Sp5,Sp6]
   refine AnyG.takeC (i:=10) (v:=?_) rfl (by kernel_rfl) (fun _ _ _ h => h) rfl ?_ hS ?_
   rotate_left
   ·(intro w' hSw; (try dsimp only at hSw); have q:=cellC hSw p1; go_simp; try with_reducible rfl)
   try simp only [Act.put,Sp1,Sp2,Sp3,Sp4,Sp5,Sp6]
   refine AnyG.takeC (i:=11) (v:=?_) rfl (by kernel_rfl) (fun _ _ _ h => h) rfl ?_ hS ?_
   rotate_left
   ·(intro w' hSw; (try dsimp only at hSw); go_simp; try with_reducible rfl)
   try simp only [Act.put,Sp1,Sp2,Sp3,Sp4,Sp5,Sp6]
   refine AnyG.takeC (i:=12) (v:=?_) rfl (by kernel_rfl) (fun _ _ _ h => h) rfl ?_ hS ?_
   rotate_left
   ·(intro w' hSw; (try dsimp only at hSw); go_simp; try with_reducible rfl)
   try simp only [Act.put,Sp1,Sp2,Sp3,Sp4,Sp5,Sp6]
   refine AnyG.takeC (i:=13) (v:=?_) rfl (by kernel_rfl) (fun _ _ _ h => h) rfl ?_ hS ?_
   rotate_left
   ·(intro w' hSw; (try dsimp only at hSw); go_simp; try with_reducible rfl)
   try simp only [Act.put,Sp1,Sp2,Sp3,Sp4,Sp5,Sp6]
   refine AnyG.done (by kernel_rfl) ?_ _
   go_simp
   go_wp2_with fail
   go_roundw
   case rel => exact ⟨i + 1,by go_num,by omega,by rw [HNX.out],hBr.drew⟩
   case measure => simp [intOf]; omega
  ·obtain rfl : i = n:=by omega
   go_wp2_with fail
   go_ret
   exact ⟨rfl,B0.trans (hBr.mono B0.size)⟩
set_option maxRecDepth 100000 in
set_option maxHeartbeats 4000000 in
theorem refCost_any (LA : Option Addr) (ln lc : Nat) (BA : Option Addr) (bn bc : Nat) (o : Od) (SA : Option Addr) (n sc : Nat) (BL : List Int) (w : World) (hb' : o.bs.length = bn) (hA : OrdAt w w.heap.size LA BA o) (ho : o.Ok) (hL : BL.length = n) (hn : n ≤ bn) (hS : Sl w w.heap.size 1 SA (inr BL)) (h6 : Six (lf BL)) :
  Calls Try.prog 29 #[.agg #[.slice LA ln lc,.int .i64 o.le,.int .i64 o.mo,.slice BA bn bc],.slice SA n sc] w fun e w' => e = .returned (.int .i64 (cst o (lf BL) n)) ∧ Below w.heap.size w w':=by
 have hbn4 : bn ≤ 4:=by rw [← hb']; exact ho.b2
 have k1:=Bx.new w 27 #[.slice LA ln lc,.int .i64 o.le,.int .i64 o.mo,.slice BA bn bc]
 have B0:=(Below.refl w.heap.size w).alloc (Nat.le_refl _) (.cells #[.slice LA ln lc,.int .i64 o.le,.int .i64 o.mo,.slice BA bn bc] 27)
 obtain ⟨V,hV⟩ : ∃ V,w.alloc (.cells #[.slice LA ln lc,.int .i64 o.le,.int .i64 o.mo,.slice BA bn bc] 27) = V:=⟨_,rfl⟩
 have hA1:=hA.call B0
 have hS1:=hS.call B0
 rw [hV] at k1 B0 hA1 hS1
 have HB:=Lib.hid hb'
 have HO:=Lib.hid ho
 have HL:=Lib.hid hL
 have H6:=Lib.hid h6
 have HV:=Lib.hid hV
 clear hV hb' ho hL hA hS h6
 go_enter Try.func29,Try.ntmps29
 go_upto_region 1 with fail
 rw [HV.out]
 go_wp2_with fail
 go_loopw [5,6] (fun s v wr => ∃ (i : Nat),v = .int .i64 i ∧ i ≤ n ∧ s = .int .i64 (cst o (lf BL) i) ∧ Below V.heap.size V wr) (fun _ v _ => n - (intOf v).toNat)
 case atStart => exact ⟨0,rfl,by omega,rfl,Below.refl _ _⟩
 case round =>
  obtain ⟨i,rfl,hi,rfl,hBr⟩:=hrel
  by_cases hin : i < n
  ·have hil : i < BL.length:=by rw [HL.out]; exact hin
   have hio : i < o.bs.length:=by rw [HB.out]; omega
   have hib : i < bn:=by omega
   obtain ⟨sa,rfl,hsa,hsc⟩:=inr_at hS1 hil
   rw [lf_at hil] at hsc
   obtain ⟨ba,G,gc,rfl,hba,p0,p1,p2,p3,-⟩:=hA1.bs.at_ hio
   rw [Od.bn_eq hio] at p0 p1 p2 p3
   have hbd:=c_bd HO.out H6.out hio
   have hsb:=cst_bd HO.out H6.out (k:=i) (by omega)
   have hiw : IntKind.i64.wrap ((i : Int) + 1) = (i : Int) + 1:=IntWalk.i64_in _ (by omega)
   obtain ⟨sv,hsv⟩ : ∃ x,cst o (lf BL) i = x:=⟨_,rfl⟩
   have hnx : cst o (lf BL) (i + 1) = sv + lf BL i * (o.bn i).c:=by rw [← hsv]; rfl
   rw [hsv] at hsb ⊢
   have HNX:=Lib.hid hnx
   obtain ⟨x,hx⟩ : ∃ x,lf BL i = x:=⟨_,rfl⟩
   obtain ⟨y,hy⟩ : ∃ x,(o.bn i).c = x:=⟨_,rfl⟩
   rw [hx] at hsc hbd HNX
   rw [hy] at hbd HNX p2
   obtain ⟨P,hP⟩ : ∃ P,x * y = P:=⟨_,rfl⟩
   rw [hP] at hbd HNX
   have hPw : IntKind.i64.wrap P = P:=IntWalk.i64_in _ (by omega)
   have hsw : IntKind.i64.wrap (sv + P) = sv + P:=IntWalk.i64_in _ (by omega)
   clear hnx hsv hx hy
   obtain ⟨l0,l1,l2,l3,lf',lz⟩:=(k1.call hBr).four
   go_wp2_with fail
   clear l0 l1 l2 l3 lf' lz
   refine AnyG.startC (by kernel_rfl) ?_
   refine AnyG.takeP (i:=0) (v:=?_) rfl (by kernel_rfl) (fun _ _ _ h => h) rfl ?_ ?_
   rotate_left
   ·(intro w'; go_simp; try with_reducible rfl)
   try simp only [Act.put,Sp1,Sp2,Sp3,Sp4,Sp5,Sp6]
   refine AnyG.takeP (i:=1) (v:=?_) rfl (by kernel_rfl) (fun _ _ _ h => h) rfl ?_ ?_
   rotate_left
   ·(intro w'; go_simp; try with_reducible rfl)
   try simp only [Act.put,Sp1,Sp2,Sp3,Sp4,Sp5,Sp6]
   refine AnyG.takeP (i:=2) (v:=?_) rfl (by kernel_rfl) (fun _ _ _ h => h) rfl ?_ ?_
   rotate_left
   ·(intro w'; go_simp; try with_reducible rfl)
   try simp only [Act.put,Sp1,Sp2,Sp3,Sp4,Sp5,Sp6]
   refine AnyG.takeP (i:=3) (v:=?_) rfl (by kernel_rfl) (fun _ _ _ h => h) rfl ?_ ?_
   rotate_left
   ·(intro w'; go_simp; try with_reducible rfl)
   try simp only [Act.put,Sp1,Sp2,Sp3,Sp4,Sp5,Sp6]
   refine AnyG.takeP (i:=5) (v:=?_) rfl (by kernel_rfl) (fun _ _ _ h => h) rfl ?_ ?_
   rotate_left
   ·(intro w'; go_simp; try with_reducible rfl)
   try simp only [Act.put,Sp1,Sp2,Sp3,Sp4,Sp5,Sp6]
   refine AnyG.takeP (i:=7) (v:=?_) rfl (by kernel_rfl) (fun _ _ _ h => h) rfl ?_ ?_
   rotate_left
   ·(intro w'; go_simp; try with_reducible rfl)
   try simp only [Act.put,Sp1,Sp2,Sp3,Sp4,Sp5,Sp6]
   refine AnyG.enter (fun w' : World => Below V.heap.size V w') (fun i => true) ?_
   have hS : (fun w' : World => Below V.heap.size V w') (World.drew _):=hBr.drew
   refine AnyG.takeC (i:=4) (v:=?_) rfl (by kernel_rfl) (fun _ _ _ h => h) rfl ?_ hS ?_
   rotate_left
   ·(intro w' hSw; (try dsimp only at hSw); have q:=cellC hSw hsc; go_simp; try with_reducible rfl)
   try simp only [Act.put,Sp1,Sp2,Sp3,Sp4,Sp5,Sp6]
   refine AnyG.takeC (i:=6) (v:=?_) rfl (by kernel_rfl) (fun _ _ _ h => h) rfl ?_ hS ?_
   rotate_left
   ·(intro w' hSw; (try dsimp only at hSw); obtain ⟨l0,l1,l2,l3,lf2,lz⟩:=(k1.call hSw).four; go_simp; try with_reducible rfl)
   try simp only [Act.put,Sp1,Sp2,Sp3,Sp4,Sp5,Sp6]
   refine AnyG.takeC (i:=8) (v:=?_) rfl (by kernel_rfl) (fun _ _ _ h => h) rfl ?_ hS ?_
   rotate_left
   ·(intro w' hSw; (try dsimp only at hSw); go_simp; try with_reducible rfl)
   try simp only [Act.put,Sp1,Sp2,Sp3,Sp4,Sp5,Sp6]
   refine AnyG.takeC (i:=9) (v:=?_) rfl (by kernel_rfl) (fun _ _ _ h => h) rfl ?_ hS ?_
   rotate_left
   ·(intro w' hSw; (try dsimp only at hSw); go_simp; try with_reducible rfl)
   try simp only [Act.put,Sp1,Sp2,Sp3,Sp4,Sp5,Sp6]
   refine AnyG.takeC (i:=10) (v:=?_) rfl (by kernel_rfl) (fun _ _ _ h => h) rfl ?_ hS ?_
   rotate_left
   ·(intro w' hSw; (try dsimp only at hSw); have q:=cellC hSw p2; go_simp; try with_reducible rfl)
   try simp only [Act.put,Sp1,Sp2,Sp3,Sp4,Sp5,Sp6]
   refine AnyG.takeC (i:=11) (v:=?_) rfl (by kernel_rfl) (fun _ _ _ h => h) rfl ?_ hS ?_
   rotate_left
   ·(intro w' hSw; (try dsimp only at hSw); go_simp; try with_reducible rfl)
   try simp only [Act.put,Sp1,Sp2,Sp3,Sp4,Sp5,Sp6]
   refine AnyG.takeC (i:=12) (v:=?_) rfl (by kernel_rfl) (fun _ _ _ h => h) rfl ?_ hS ?_
   rotate_left
   ·(intro w' hSw; (try dsimp only at hSw); go_simp; try with_reducible rfl)
   try simp only [Act.put,Sp1,Sp2,Sp3,Sp4,Sp5,Sp6]
   refine AnyG.takeC (i:=13) (v:=?_) rfl (by kernel_rfl) (fun _ _ _ h => h) rfl ?_ hS ?_
   rotate_left
   ·(intro w' hSw; (try dsimp only at hSw); go_simp; try with_reducible rfl)
   try simp only [Act.put,Sp1,Sp2,Sp3,Sp4,Sp5,Sp6]
   refine AnyG.done (by kernel_rfl) ?_ _
   go_simp
   go_wp2_with fail
   go_roundw
   case rel => exact ⟨i + 1,by go_num,by omega,by rw [HNX.out],hBr.drew⟩
   case measure => simp [intOf]; omega
  ·obtain rfl : i = n:=by omega
   go_wp2_with fail
   go_ret
   exact ⟨rfl,B0.trans (hBr.mono B0.size)⟩
/-- The limits are kept, with the greatest or the least. -/
def hld (o : Od) (b : Nat → Int) (m : Bool) (k : Nat) : Bool:=if m = true then !xk o b k else !nk o b k
def exM (o : Od) (b : Nat → Int) (m : Bool) (j k : Nat) : Int:=if m = true then exX o b j k else exN o b j k
theorem hld_succ (o : Od) (b : Nat → Int) (m : Bool) (k : Nat) : hld o b m (k + 1) = (hld o b m k && decide (exM o b m k o.bs.length ≤ 0)):=by
 unfold hld exM
 cases m
 ·simp only [Bool.false_eq_true,if_false,nk_succ,Bool.not_or]
  by_cases h : 0 < exN o b k o.bs.length <;> simp [h] <;> omega
 ·simp only [if_true,xk_succ,Bool.not_or]
  by_cases h : 0 < exX o b k o.bs.length <;> simp [h] <;> omega
theorem hld_no {o : Od} {b : Nat → Int} {m : Bool} {j k : Nat} (hj : j < k) (h : 0 < exM o b m j o.bs.length) : hld o b m k = false:=by
 induction k with
 | zero => omega
 | succ k ih =>
  rw [hld_succ]
  by_cases e : j = k
  ·subst e; rw [decide_eq_false (by omega)]; simp
  ·rw [ih (by omega)]; rfl
set_option maxRecDepth 100000 in
set_option maxHeartbeats 8000000 in
theorem refHolds_any (LA : Option Addr) (ln lc : Nat) (BA : Option Addr) (bn bc : Nat) (o : Od) (SA : Option Addr) (sc : Nat) (BL : List Int) (m : Bool) (w : World) (hl : o.lm.length = ln) (hb' : o.bs.length = bn) (hA : OrdAt w w.heap.size LA BA o) (ho : o.Ok) (hL : BL.length = bn) (hS : Sl w w.heap.size 1 SA (inr BL)) (h6 : Six (lf BL)) :
  Calls Try.prog 67 #[.agg #[.slice LA ln lc,.int .i64 o.le,.int .i64 o.mo,.slice BA bn bc],.slice SA bn sc,.bool m] w fun e w' => e = .returned (.bool (hld o (lf BL) m ln)) ∧ Below w.heap.size w w':=by
 have hbn4 : bn ≤ 4:=by rw [← hb']; exact ho.b2
 have hln3 : ln ≤ 3:=by rw [← hl]; exact ho.lm
 have k1:=Bx.new w 27 #[.slice LA ln lc,.int .i64 o.le,.int .i64 o.mo,.slice BA bn bc]
 have B0:=(Below.refl w.heap.size w).alloc (Nat.le_refl _) (.cells #[.slice LA ln lc,.int .i64 o.le,.int .i64 o.mo,.slice BA bn bc] 27)
 obtain ⟨V,hV⟩ : ∃ V,w.alloc (.cells #[.slice LA ln lc,.int .i64 o.le,.int .i64 o.mo,.slice BA bn bc] 27) = V:=⟨_,rfl⟩
 have hA1:=hA.call B0
 have hS1:=hS.call B0
 rw [hV] at k1 B0 hA1 hS1
 have HB:=Lib.hid hb'
 have HLN:=Lib.hid hl
 have HO:=Lib.hid ho
 have HL:=Lib.hid hL
 have H6:=Lib.hid h6
 have HV:=Lib.hid hV
 clear hV hb' hl ho hL hA hS h6
 go_enter Try.func67,Try.ntmps67
 go_upto_region 1 with fail
 rw [HV.out]
 go_wp2_with fail
 go_loopw [7,8,9,10] (fun v _ _ _ wr => ∃ (j : Nat),v = .int .i64 j ∧ j ≤ ln ∧ Hid (hld o (lf BL) m j = true) ∧ Below V.heap.size V wr) (fun v _ _ _ _ => ln - (intOf v).toNat)
 case atStart => exact ⟨0,rfl,by omega,Lib.hid (by cases m <;> rfl),Below.refl _ _⟩
 case round =>
  obtain ⟨j,rfl,hj,hh,hBr⟩:=hrel
  by_cases hjn : j < ln
  ·have hjl : j < o.lm.length:=by rw [HLN.out]; exact hjn
   have hjw : IntKind.i64.wrap ((j : Int) + 1) = (j : Int) + 1:=IntWalk.i64_in _ (by omega)
   obtain ⟨la,rfl,hla,hlj⟩:=inr_at hA1.lm hjl
   rw [Od.li_eq hjl] at hlj
   have hlb:=HO.out.li (j:=j)
   obtain ⟨lj,hljv⟩ : ∃ x,o.li j = x:=⟨_,rfl⟩
   rw [hljv] at hlj hlb
   have HLJ:=Lib.hid hljv
   clear hljv
   obtain ⟨l0,l1,l2,l3,lf',lz⟩:=(k1.call hBr).four
   go_upto_region 5 with fail
   clear l0 l1 l2 l3 lf' lz
   go_wp2_with fail
   go_loopw [8,9,10] (fun s v _ wr => ∃ (i : Nat),v = .int .i64 i ∧ i ≤ bn ∧ s = .int .i64 (exM o (lf BL) m j i) ∧ Below V.heap.size V wr) (fun _ v _ _ => bn - (intOf v).toNat)
   case atStart => exact ⟨0,rfl,by omega,by cases m <;> rfl,hBr⟩
   case round =>
    clear hBr
    obtain ⟨i,rfl,hi,rfl,hBr⟩:=hrel
    obtain ⟨l0,l1,l2,l3,lf',lz⟩:=(k1.call hBr).four
    by_cases hin : i < bn
    ·have hil : i < BL.length:=by rw [HL.out]; exact hin
     have hio : i < o.bs.length:=by rw [HB.out]; omega
     obtain ⟨sa,rfl,hsa,hsc⟩:=inr_at hS1 hil
     rw [lf_at hil] at hsc
     obtain ⟨ba,G,gc,rfl,hba,p0,p1,p2,p3,hgs⟩:=hA1.bs.at_ hio
     have hbo:=HO.out.bn hio
     rw [HLN.out] at hbo
     rw [Od.bn_eq hio] at p0 p1 p2 p3 hgs
     rw [hbo.len] at p0
     obtain ⟨ga,rfl,hga,g0,g1⟩:=gnr_at hgs (by rw [hbo.len]; exact hjn)
     rw [Bn.g_eq (by rw [hbo.len]; exact hjn)] at g0 g1
     dsimp only at g0 g1
     have hgj:=hbo.gj j
     have hwb:=w_bd HO.out H6.out hio
     have hnb:=n_bd HO.out H6.out hio j
     have hxb:=x_bd HO.out H6.out hio j
     have hns:=exN_bd HO.out H6.out (j:=j) (k:=i) (by omega)
     have hxs:=exX_bd HO.out H6.out (j:=j) (k:=i) (by omega)
     have hiw : IntKind.i64.wrap ((i : Int) + 1) = (i : Int) + 1:=IntWalk.i64_in _ (by omega)
     rw [HLJ.out] at hnb hxb
     have hnx : exM o (lf BL) m j (i + 1) = exM o (lf BL) m j i + lf BL i * (o.bn i).w * ((if m = true then (o.bn i).g2 j else (o.bn i).g1 j) - lj):=by rw [← HLJ.out]; cases m <;> rfl
     have hes : -240000000000 ≤ exM o (lf BL) m j i ∧ exM o (lf BL) m j i ≤ 240000000000:=by unfold exM; split <;> assumption
     have heb : -60000000000 ≤ lf BL i * (o.bn i).w * ((if m = true then (o.bn i).g2 j else (o.bn i).g1 j) - lj) ∧ lf BL i * (o.bn i).w * ((if m = true then (o.bn i).g2 j else (o.bn i).g1 j) - lj) ≤ 60000000000:=by split <;> assumption
     clear hnb hxb hns hxs
     obtain ⟨sv,hsv⟩ : ∃ x,exM o (lf BL) m j i = x:=⟨_,rfl⟩
     rw [hsv] at hnx hes ⊢
     obtain ⟨x,hx⟩ : ∃ x,lf BL i = x:=⟨_,rfl⟩
     obtain ⟨y,hy⟩ : ∃ x,(o.bn i).w = x:=⟨_,rfl⟩
     obtain ⟨a1,ha1⟩ : ∃ x,(o.bn i).g1 j = x:=⟨_,rfl⟩
     obtain ⟨a2,ha2⟩ : ∃ x,(o.bn i).g2 j = x:=⟨_,rfl⟩
     rw [hx] at hsc hwb hnx heb
     rw [hy] at hwb hnx heb p1
     rw [ha1] at g0 hnx heb hgj
     rw [ha2] at g1 hnx heb hgj
     obtain ⟨P,hP⟩ : ∃ P,x * y = P:=⟨_,rfl⟩
     rw [hP] at hwb hnx heb
     have hPw : IntKind.i64.wrap P = P:=IntWalk.i64_in _ (by omega)
     have HNX:=Lib.hid hnx
     clear hnx hsv hx hy ha1 ha2 hbo
     cases m
     ·rw [if_neg (by simp)] at heb
      have hnx2 : exM o (lf BL) false j (i + 1) = sv + P * (a1 - lj):=by rw [HNX.out]; simp
      clear HNX
      have HNX:=Lib.hid hnx2
      clear hnx2
      obtain ⟨D,hD⟩ : ∃ D,a1 - lj = D:=⟨_,rfl⟩
      have hDw : IntKind.i64.wrap (a1 - lj) = D:=by rw [IntWalk.i64_in _ (by omega)]; exact hD
      rw [hD] at heb HNX
      obtain ⟨E,hE⟩ : ∃ E,P * D = E:=⟨_,rfl⟩
      rw [hE] at heb HNX
      have hEw : IntKind.i64.wrap E = E:=IntWalk.i64_in _ (by omega)
      have hsw : IntKind.i64.wrap (sv + E) = sv + E:=IntWalk.i64_in _ (by omega)
      have HE:=Lib.hid hD
      clear hD
      have q0:=cellC hBr p0
      have r0:=cellC hBr g0
      go_wp2_with fail
      clear l0 l1 l2 l3 lf' lz q0 r0
      refine AnyG.startC (by kernel_rfl) ?_
      refine AnyG.takeP (i:=0) (v:=?_) rfl (by kernel_rfl) (fun _ _ _ h => h) rfl ?_ ?_
      rotate_left
      ·(intro w'; go_simp; try with_reducible rfl)
      try simp only [Act.put,Sp1,Sp2,Sp3,Sp4,Sp5,Sp6]
      refine AnyG.takeP (i:=1) (v:=?_) rfl (by kernel_rfl) (fun _ _ _ h => h) rfl ?_ ?_
      rotate_left
      ·(intro w'; go_simp; try with_reducible rfl)
      try simp only [Act.put,Sp1,Sp2,Sp3,Sp4,Sp5,Sp6]
      refine AnyG.takeP (i:=2) (v:=?_) rfl (by kernel_rfl) (fun _ _ _ h => h) rfl ?_ ?_
      rotate_left
      ·(intro w'; go_simp; try with_reducible rfl)
      try simp only [Act.put,Sp1,Sp2,Sp3,Sp4,Sp5,Sp6]
      refine AnyG.takeP (i:=3) (v:=?_) rfl (by kernel_rfl) (fun _ _ _ h => h) rfl ?_ ?_
      rotate_left
      ·(intro w'; go_simp; try with_reducible rfl)
      try simp only [Act.put,Sp1,Sp2,Sp3,Sp4,Sp5,Sp6]
      refine AnyG.takeP (i:=5) (v:=?_) rfl (by kernel_rfl) (fun _ _ _ h => h) rfl ?_ ?_
      rotate_left
      ·(intro w'; go_simp; try with_reducible rfl)
      try simp only [Act.put,Sp1,Sp2,Sp3,Sp4,Sp5,Sp6]
      refine AnyG.takeP (i:=7) (v:=?_) rfl (by kernel_rfl) (fun _ _ _ h => h) rfl ?_ ?_
      rotate_left
      ·(intro w'; go_simp; try with_reducible rfl)
      try simp only [Act.put,Sp1,Sp2,Sp3,Sp4,Sp5,Sp6]
      refine AnyG.takeP (i:=12) (v:=?_) rfl (by kernel_rfl) (fun _ _ _ h => h) rfl ?_ ?_
      rotate_left
      ·(intro w'; go_simp; try with_reducible rfl)
      try simp only [Act.put,Sp1,Sp2,Sp3,Sp4,Sp5,Sp6]
      refine AnyG.takeP (i:=13) (v:=?_) rfl (by kernel_rfl) (fun _ _ _ h => h) rfl ?_ ?_
      rotate_left
      ·(intro w'; go_simp; try with_reducible rfl)
      try simp only [Act.put,Sp1,Sp2,Sp3,Sp4,Sp5,Sp6]
      refine AnyG.takeP (i:=15) (v:=?_) rfl (by kernel_rfl) (fun _ _ _ h => h) rfl ?_ ?_
      rotate_left
      ·(intro w'; go_simp; try with_reducible rfl)
      try simp only [Act.put,Sp1,Sp2,Sp3,Sp4,Sp5,Sp6]
      refine AnyG.enter (fun w' : World => Below V.heap.size V w') (fun i => true) ?_
      have hS : (fun w' : World => Below V.heap.size V w') (World.drew _):=hBr.drew
      refine AnyG.takeC (i:=4) (v:=?_) rfl (by kernel_rfl) (fun _ _ _ h => h) rfl ?_ hS ?_
      rotate_left
      ·(intro w' hSw; (try dsimp only at hSw); have q:=cellC hSw hsc; go_simp; try with_reducible rfl)
      try simp only [Act.put,Sp1,Sp2,Sp3,Sp4,Sp5,Sp6]
      refine AnyG.takeC (i:=6) (v:=?_) rfl (by kernel_rfl) (fun _ _ _ h => h) rfl ?_ hS ?_
      rotate_left
      ·(intro w' hSw; (try dsimp only at hSw); obtain ⟨l0,l1,l2,l3,lf2,lz⟩:=(k1.call hSw).four; go_simp; try with_reducible rfl)
      try simp only [Act.put,Sp1,Sp2,Sp3,Sp4,Sp5,Sp6]
      refine AnyG.takeC (i:=8) (v:=?_) rfl (by kernel_rfl) (fun _ _ _ h => h) rfl ?_ hS ?_
      rotate_left
      ·(intro w' hSw; (try dsimp only at hSw); go_simp; try with_reducible rfl)
      try simp only [Act.put,Sp1,Sp2,Sp3,Sp4,Sp5,Sp6]
      refine AnyG.takeC (i:=9) (v:=?_) rfl (by kernel_rfl) (fun _ _ _ h => h) rfl ?_ hS ?_
      rotate_left
      ·(intro w' hSw; (try dsimp only at hSw); go_simp; try with_reducible rfl)
      try simp only [Act.put,Sp1,Sp2,Sp3,Sp4,Sp5,Sp6]
      refine AnyG.takeC (i:=10) (v:=?_) rfl (by kernel_rfl) (fun _ _ _ h => h) rfl ?_ hS ?_
      rotate_left
      ·(intro w' hSw; (try dsimp only at hSw); have q:=cellC hSw p1; go_simp; try with_reducible rfl)
      try simp only [Act.put,Sp1,Sp2,Sp3,Sp4,Sp5,Sp6]
      refine AnyG.takeC (i:=11) (v:=?_) rfl (by kernel_rfl) (fun _ _ _ h => h) rfl ?_ hS ?_
      rotate_left
      ·(intro w' hSw; (try dsimp only at hSw); go_simp; try with_reducible rfl)
      try simp only [Act.put,Sp1,Sp2,Sp3,Sp4,Sp5,Sp6]
      refine AnyG.takeC (i:=14) (v:=?_) rfl (by kernel_rfl) (fun _ _ _ h => h) rfl ?_ hS ?_
      rotate_left
      ·(intro w' hSw; (try dsimp only at hSw); obtain ⟨l0,l1,l2,l3,lf2,lz⟩:=(k1.call hSw).four; go_simp; try with_reducible rfl)
      try simp only [Act.put,Sp1,Sp2,Sp3,Sp4,Sp5,Sp6]
      refine AnyG.takeC (i:=16) (v:=?_) rfl (by kernel_rfl) (fun _ _ _ h => h) rfl ?_ hS ?_
      rotate_left
      ·(intro w' hSw; (try dsimp only at hSw); go_simp; try with_reducible rfl)
      try simp only [Act.put,Sp1,Sp2,Sp3,Sp4,Sp5,Sp6]
      refine AnyG.takeC (i:=17) (v:=?_) rfl (by kernel_rfl) (fun _ _ _ h => h) rfl ?_ hS ?_
      rotate_left
      ·(intro w' hSw; (try dsimp only at hSw); have q:=cellC hSw hlj; go_simp; try with_reducible rfl)
      try simp only [Act.put,Sp1,Sp2,Sp3,Sp4,Sp5,Sp6]
      refine AnyG.takeC (i:=18) (v:=?_) rfl (by kernel_rfl) (fun _ _ _ h => h) rfl ?_ hS ?_
      rotate_left
      ·(intro w' hSw; (try dsimp only at hSw); go_simp; try with_reducible rfl)
      try simp only [Act.put,Sp1,Sp2,Sp3,Sp4,Sp5,Sp6]
      refine AnyG.takeC (i:=19) (v:=?_) rfl (by kernel_rfl) (fun _ _ _ h => h) rfl ?_ hS ?_
      rotate_left
      ·(intro w' hSw; (try dsimp only at hSw); go_simp; try with_reducible rfl)
      try simp only [Act.put,Sp1,Sp2,Sp3,Sp4,Sp5,Sp6]
      refine AnyG.takeC (i:=20) (v:=?_) rfl (by kernel_rfl) (fun _ _ _ h => h) rfl ?_ hS ?_
      rotate_left
      ·(intro w' hSw; (try dsimp only at hSw); go_simp; try with_reducible rfl)
      try simp only [Act.put,Sp1,Sp2,Sp3,Sp4,Sp5,Sp6]
      refine AnyG.takeC (i:=21) (v:=?_) rfl (by kernel_rfl) (fun _ _ _ h => h) rfl ?_ hS ?_
      rotate_left
      ·(intro w' hSw; (try dsimp only at hSw); go_simp; try with_reducible rfl)
      try simp only [Act.put,Sp1,Sp2,Sp3,Sp4,Sp5,Sp6]
      refine AnyG.done (by kernel_rfl) ?_ _
      go_simp
      go_wp2_with fail
      go_roundw
      case rel => exact ⟨i + 1,by go_num,by omega,by rw [HNX.out],hBr.drew⟩
      case measure => simp [intOf]; omega
     ·rw [if_pos rfl] at heb
      have hnx2 : exM o (lf BL) true j (i + 1) = sv + P * (a2 - lj):=by rw [HNX.out]; simp
      clear HNX
      have HNX:=Lib.hid hnx2
      clear hnx2
      obtain ⟨D,hD⟩ : ∃ D,a2 - lj = D:=⟨_,rfl⟩
      have hDw : IntKind.i64.wrap (a2 - lj) = D:=by rw [IntWalk.i64_in _ (by omega)]; exact hD
      rw [hD] at heb HNX
      obtain ⟨E,hE⟩ : ∃ E,P * D = E:=⟨_,rfl⟩
      rw [hE] at heb HNX
      have hEw : IntKind.i64.wrap E = E:=IntWalk.i64_in _ (by omega)
      have hsw : IntKind.i64.wrap (sv + E) = sv + E:=IntWalk.i64_in _ (by omega)
      have HE:=Lib.hid hD
      clear hD
      have q0:=cellC hBr p0
      have r0:=cellC hBr g0
      have r1:=cellC hBr g1
      go_wp2_with fail
      clear l0 l1 l2 l3 lf' lz q0 r0 r1
      refine AnyG.startC (by kernel_rfl) ?_
      refine AnyG.takeP (i:=0) (v:=?_) rfl (by kernel_rfl) (fun _ _ _ h => h) rfl ?_ ?_
      rotate_left
      ·(intro w'; go_simp; try with_reducible rfl)
      try simp only [Act.put,Sp1,Sp2,Sp3,Sp4,Sp5,Sp6]
      refine AnyG.takeP (i:=1) (v:=?_) rfl (by kernel_rfl) (fun _ _ _ h => h) rfl ?_ ?_
      rotate_left
      ·(intro w'; go_simp; try with_reducible rfl)
      try simp only [Act.put,Sp1,Sp2,Sp3,Sp4,Sp5,Sp6]
      refine AnyG.takeP (i:=2) (v:=?_) rfl (by kernel_rfl) (fun _ _ _ h => h) rfl ?_ ?_
      rotate_left
      ·(intro w'; go_simp; try with_reducible rfl)
      try simp only [Act.put,Sp1,Sp2,Sp3,Sp4,Sp5,Sp6]
      refine AnyG.takeP (i:=3) (v:=?_) rfl (by kernel_rfl) (fun _ _ _ h => h) rfl ?_ ?_
      rotate_left
      ·(intro w'; go_simp; try with_reducible rfl)
      try simp only [Act.put,Sp1,Sp2,Sp3,Sp4,Sp5,Sp6]
      refine AnyG.takeP (i:=5) (v:=?_) rfl (by kernel_rfl) (fun _ _ _ h => h) rfl ?_ ?_
      rotate_left
      ·(intro w'; go_simp; try with_reducible rfl)
      try simp only [Act.put,Sp1,Sp2,Sp3,Sp4,Sp5,Sp6]
      refine AnyG.takeP (i:=7) (v:=?_) rfl (by kernel_rfl) (fun _ _ _ h => h) rfl ?_ ?_
      rotate_left
      ·(intro w'; go_simp; try with_reducible rfl)
      try simp only [Act.put,Sp1,Sp2,Sp3,Sp4,Sp5,Sp6]
      refine AnyG.takeP (i:=12) (v:=?_) rfl (by kernel_rfl) (fun _ _ _ h => h) rfl ?_ ?_
      rotate_left
      ·(intro w'; go_simp; try with_reducible rfl)
      try simp only [Act.put,Sp1,Sp2,Sp3,Sp4,Sp5,Sp6]
      refine AnyG.takeP (i:=13) (v:=?_) rfl (by kernel_rfl) (fun _ _ _ h => h) rfl ?_ ?_
      rotate_left
      ·(intro w'; go_simp; try with_reducible rfl)
      try simp only [Act.put,Sp1,Sp2,Sp3,Sp4,Sp5,Sp6]
      refine AnyG.takeP (i:=15) (v:=?_) rfl (by kernel_rfl) (fun _ _ _ h => h) rfl ?_ ?_
      rotate_left
      ·(intro w'; go_simp; try with_reducible rfl)
      try simp only [Act.put,Sp1,Sp2,Sp3,Sp4,Sp5,Sp6]
      refine AnyG.enter (fun w' : World => Below V.heap.size V w') (fun i => true) ?_
      have hS : (fun w' : World => Below V.heap.size V w') (World.drew _):=hBr.drew
      refine AnyG.takeC (i:=4) (v:=?_) rfl (by kernel_rfl) (fun _ _ _ h => h) rfl ?_ hS ?_
      rotate_left
      ·(intro w' hSw; (try dsimp only at hSw); have q:=cellC hSw hsc; go_simp; try with_reducible rfl)
      try simp only [Act.put,Sp1,Sp2,Sp3,Sp4,Sp5,Sp6]
      refine AnyG.takeC (i:=6) (v:=?_) rfl (by kernel_rfl) (fun _ _ _ h => h) rfl ?_ hS ?_
      rotate_left
      ·(intro w' hSw; (try dsimp only at hSw); obtain ⟨l0,l1,l2,l3,lf2,lz⟩:=(k1.call hSw).four; go_simp; try with_reducible rfl)
      try simp only [Act.put,Sp1,Sp2,Sp3,Sp4,Sp5,Sp6]
      refine AnyG.takeC (i:=8) (v:=?_) rfl (by kernel_rfl) (fun _ _ _ h => h) rfl ?_ hS ?_
      rotate_left
      ·(intro w' hSw; (try dsimp only at hSw); go_simp; try with_reducible rfl)
      try simp only [Act.put,Sp1,Sp2,Sp3,Sp4,Sp5,Sp6]
      refine AnyG.takeC (i:=9) (v:=?_) rfl (by kernel_rfl) (fun _ _ _ h => h) rfl ?_ hS ?_
      rotate_left
      ·(intro w' hSw; (try dsimp only at hSw); go_simp; try with_reducible rfl)
      try simp only [Act.put,Sp1,Sp2,Sp3,Sp4,Sp5,Sp6]
      refine AnyG.takeC (i:=10) (v:=?_) rfl (by kernel_rfl) (fun _ _ _ h => h) rfl ?_ hS ?_
      rotate_left
      ·(intro w' hSw; (try dsimp only at hSw); have q:=cellC hSw p1; go_simp; try with_reducible rfl)
      try simp only [Act.put,Sp1,Sp2,Sp3,Sp4,Sp5,Sp6]
      refine AnyG.takeC (i:=11) (v:=?_) rfl (by kernel_rfl) (fun _ _ _ h => h) rfl ?_ hS ?_
      rotate_left
      ·(intro w' hSw; (try dsimp only at hSw); go_simp; try with_reducible rfl)
      try simp only [Act.put,Sp1,Sp2,Sp3,Sp4,Sp5,Sp6]
      refine AnyG.takeC (i:=14) (v:=?_) rfl (by kernel_rfl) (fun _ _ _ h => h) rfl ?_ hS ?_
      rotate_left
      ·(intro w' hSw; (try dsimp only at hSw); obtain ⟨l0,l1,l2,l3,lf2,lz⟩:=(k1.call hSw).four; go_simp; try with_reducible rfl)
      try simp only [Act.put,Sp1,Sp2,Sp3,Sp4,Sp5,Sp6]
      refine AnyG.takeC (i:=16) (v:=?_) rfl (by kernel_rfl) (fun _ _ _ h => h) rfl ?_ hS ?_
      rotate_left
      ·(intro w' hSw; (try dsimp only at hSw); go_simp; try with_reducible rfl)
      try simp only [Act.put,Sp1,Sp2,Sp3,Sp4,Sp5,Sp6]
      refine AnyG.takeC (i:=17) (v:=?_) rfl (by kernel_rfl) (fun _ _ _ h => h) rfl ?_ hS ?_
      rotate_left
      ·(intro w' hSw; (try dsimp only at hSw); have q:=cellC hSw hlj; go_simp; try with_reducible rfl)
      try simp only [Act.put,Sp1,Sp2,Sp3,Sp4,Sp5,Sp6]
      refine AnyG.takeC (i:=18) (v:=?_) rfl (by kernel_rfl) (fun _ _ _ h => h) rfl ?_ hS ?_
      rotate_left
      ·(intro w' hSw; (try dsimp only at hSw); go_simp; try with_reducible rfl)
      try simp only [Act.put,Sp1,Sp2,Sp3,Sp4,Sp5,Sp6]
      refine AnyG.takeC (i:=19) (v:=?_) rfl (by kernel_rfl) (fun _ _ _ h => h) rfl ?_ hS ?_
      rotate_left
      ·(intro w' hSw; (try dsimp only at hSw); go_simp; try with_reducible rfl)
      try simp only [Act.put,Sp1,Sp2,Sp3,Sp4,Sp5,Sp6]
      refine AnyG.takeC (i:=20) (v:=?_) rfl (by kernel_rfl) (fun _ _ _ h => h) rfl ?_ hS ?_
      rotate_left
      ·(intro w' hSw; (try dsimp only at hSw); go_simp; try with_reducible rfl)
      try simp only [Act.put,Sp1,Sp2,Sp3,Sp4,Sp5,Sp6]
      refine AnyG.takeC (i:=21) (v:=?_) rfl (by kernel_rfl) (fun _ _ _ h => h) rfl ?_ hS ?_
      rotate_left
      ·(intro w' hSw; (try dsimp only at hSw); go_simp; try with_reducible rfl)
      try simp only [Act.put,Sp1,Sp2,Sp3,Sp4,Sp5,Sp6]
      refine AnyG.done (by kernel_rfl) ?_ _
      go_simp
      go_wp2_with fail
      go_roundw
      case rel => exact ⟨i + 1,by go_num,by omega,by rw [HNX.out],hBr.drew⟩
      case measure => simp [intOf]; omega
    ·obtain rfl : i = bn:=by omega
     by_cases hp : 0 < exM o (lf BL) m j i
     ·have d : decide (0 < exM o (lf BL) m j i) = true:=decide_eq_true hp
      have hno : hld o (lf BL) m ln = false:=hld_no hjn (by rw [HB.out]; exact hp)
      have HNO:=Lib.hid hno
      clear hp hno
      go_wp2_with fail
      go_ret
      rw [HNO.out]
      exact ⟨rfl,B0.trans (hBr.mono B0.size)⟩
     ·have d : decide (0 < exM o (lf BL) m j i) = false:=decide_eq_false hp
      have hyes : hld o (lf BL) m (j + 1) = true:=by rw [hld_succ,hh.out,HB.out,decide_eq_true (by omega)]; rfl
      have HY:=Lib.hid hyes
      clear hp hyes
      go_wp2_with fail
      go_roundw
      case rel => exact ⟨j + 1,by go_num,by omega,HY,hBr⟩
      case measure => simp [intOf]; omega
  ·obtain rfl : j = ln:=by omega
   obtain ⟨l0,l1,l2,l3,lf',lz⟩:=(k1.call hBr).four
   go_wp2_with fail
   go_ret
   rw [hh.out]
   exact ⟨rfl,B0.trans (hBr.mono B0.size)⟩
theorem good_dec {o : Od} (ho : o.Ok) {b : Nat → Int} (hb : Six b) : decide (Good o b) = (decide (o.le ≤ kil o b o.bs.length ∧ kil o b o.bs.length ≤ o.mo) && hld o b true o.lm.length):=by
 have e : hld o b true o.lm.length = decide (kv o b = 1):=by
  unfold hld kv
  rw [if_pos rfl]
  by_cases hx : xk o b o.lm.length = true
  ·rw [hx]; split <;> simp
  ·have hn : ¬ nk o b o.lm.length = true:=by
    intro hn
    apply hx
    simp only [nk,xk,List.any_eq_true,List.mem_range,decide_eq_true_eq] at hn ⊢
    obtain ⟨j,hj,h⟩:=hn
    exact ⟨j,hj,Int.lt_of_lt_of_le h (exN_exX ho hb (Nat.le_refl _))⟩
   rw [if_neg hn,if_neg hx]; simp at hx; simp [hx]
 rw [e]
 unfold Good
 by_cases h1 : o.le ≤ kil o b o.bs.length <;> by_cases h2 : kil o b o.bs.length ≤ o.mo <;> by_cases h3 : kv o b = 1 <;> simp [h1,h2,h3]
set_option maxRecDepth 100000 in
set_option maxHeartbeats 4000000 in
theorem refGood_any (LA : Option Addr) (ln lc : Nat) (BA : Option Addr) (bn bc : Nat) (o : Od) (SA : Option Addr) (sc : Nat) (BL : List Int) (w : World) (hl : o.lm.length = ln) (hb' : o.bs.length = bn) (hA : OrdAt w w.heap.size LA BA o) (ho : o.Ok) (hL : BL.length = bn) (hS : Sl w w.heap.size 1 SA (inr BL)) (h6 : Six (lf BL)) :
  Calls Try.prog 28 #[.agg #[.slice LA ln lc,.int .i64 o.le,.int .i64 o.mo,.slice BA bn bc],.slice SA bn sc] w fun e w' => e = .returned (.bool (decide (Good o (lf BL)))) ∧ Below w.heap.size w w':=by
 have k1:=Bx.new w 27 #[.slice LA ln lc,.int .i64 o.le,.int .i64 o.mo,.slice BA bn bc]
 have B0:=(Below.refl w.heap.size w).alloc (Nat.le_refl _) (.cells #[.slice LA ln lc,.int .i64 o.le,.int .i64 o.mo,.slice BA bn bc] 27)
 obtain ⟨V,hV⟩ : ∃ V,w.alloc (.cells #[.slice LA ln lc,.int .i64 o.le,.int .i64 o.mo,.slice BA bn bc] 27) = V:=⟨_,rfl⟩
 have hA1:=hA.call B0
 have hS1:=hS.call B0
 have hgd:=good_dec ho h6
 rw [hl,hb'] at hgd
 rw [hV] at k1 B0 hA1 hS1
 have HB:=Lib.hid hb'
 have HLN:=Lib.hid hl
 have HO:=Lib.hid ho
 have HL:=Lib.hid hL
 have H6:=Lib.hid h6
 have HV:=Lib.hid hV
 clear hV hb' hl ho hL hA hS h6
 cases hf : decide (o.le ≤ kil o (lf BL) bn ∧ kil o (lf BL) bn ≤ o.mo) with
 | false =>
  rw [hf] at hgd
  rw [hgd]
  have HF:=Lib.hid hf
  clear hf hgd
  go_enter Try.func28,Try.ntmps28
  go_upto_region 1 with fail
  rw [HV.out]
  go_wp2_with fail
  refine AnyG.startC (by kernel_rfl) ?_
  refine AnyG.takeP (i:=1) (v:=?_) rfl (by kernel_rfl) (fun _ _ _ h => h) rfl ?_ ?_
  rotate_left
  ·(intro w'; go_simp; try with_reducible rfl)
  try simp only [Act.put,Sp1,Sp2,Sp3,Sp4,Sp5,Sp6]
  refine AnyG.takeP (i:=3) (v:=?_) rfl (by kernel_rfl) (fun _ _ _ h => h) rfl ?_ ?_
  rotate_left
  ·(intro w'; go_simp; try with_reducible rfl)
  try simp only [Act.put,Sp1,Sp2,Sp3,Sp4,Sp5,Sp6]
  refine AnyG.takeP (i:=5) (v:=?_) rfl (by kernel_rfl) (fun _ _ _ h => h) rfl ?_ ?_
  rotate_left
  ·(intro w'; go_simp; try with_reducible rfl)
  try simp only [Act.put,Sp1,Sp2,Sp3,Sp4,Sp5,Sp6]
  refine AnyG.enter (fun w' : World => Below V.heap.size V w') (fun i => i != 13) ?_
  have hS : (fun w' : World => Below V.heap.size V w') (World.drew _):=(Below.refl _ _).drew
  refine AnyG.takeC (i:=0) (v:=?_) rfl (by kernel_rfl) (fun _ _ _ h => h) rfl ?_ hS ?_
  rotate_left
  ·(intro w' hSw; (try dsimp only at hSw); obtain ⟨l0,l1,l2,l3,lf2,lz⟩:=(k1.call hSw).four; go_simp; try with_reducible rfl)
  try simp only [Act.put,Sp1,Sp2,Sp3,Sp4,Sp5,Sp6]
  refine AnyG.takeC (i:=4) (v:=?_) rfl (by kernel_rfl) (fun _ _ _ h => h) rfl ?_ hS ?_
  rotate_left
  ·(intro w' hSw; (try dsimp only at hSw); obtain ⟨l0,l1,l2,l3,lf2,lz⟩:=(k1.call hSw).four; go_simp; try with_reducible rfl)
  try simp only [Act.put,Sp1,Sp2,Sp3,Sp4,Sp5,Sp6]
  refine AnyG.takeC (i:=6) (v:=?_) rfl (by kernel_rfl) (fun _ _ _ h => h) rfl ?_ hS ?_
  rotate_left
  ·(intro w' hSw; (try dsimp only at hSw); obtain ⟨l0,l1,l2,l3,lf2,lz⟩:=(k1.call hSw).four; go_simp; try with_reducible rfl)
  try simp only [Act.put,Sp1,Sp2,Sp3,Sp4,Sp5,Sp6]
  refine AnyG.one (i:=2) (by kernel_rfl) rfl rfl ?_
  go_simp
  refine (refKilos_any LA ln lc BA bn bc o SA bn sc BL _ HB.out (hA1.call hS) HO.out HL.out (Nat.le_refl _) (hS1.call hS) H6.out).mono ?_
  rintro e2 y2 ⟨rfl,hb2⟩
  refine Onward.on (hS.trans (hb2.mono hS.size)) (fun hS2 => ?_)
  clear hS
  have hS:=hS2
  clear hS2
  try simp only [Act.put,Sp1,Sp2,Sp3,Sp4,Sp5,Sp6]
  refine AnyG.one (i:=7) (by kernel_rfl) rfl rfl ?_
  go_simp
  refine (from65_any _ _ _ _).mono ?_
  rintro e7 y7 ⟨rfl,hb7⟩
  rw [HF.out]
  refine Onward.on (hS.trans (hb7.mono hS.size)) (fun hS2 => ?_)
  clear hS
  have hS:=hS2
  clear hS2
  try simp only [Act.put,Sp1,Sp2,Sp3,Sp4,Sp5,Sp6]
  refine AnyG.takeC (i:=8) (v:=?_) rfl (by kernel_rfl) (fun _ _ _ h => h) rfl ?_ hS ?_
  rotate_left
  ·(intro w' hSw; (try dsimp only at hSw); go_simp; try with_reducible rfl)
  try simp only [Act.put,Sp1,Sp2,Sp3,Sp4,Sp5,Sp6]
  refine AnyG.takeNC (i:=9) rfl (by kernel_rfl) (fun _ _ _ h => h) (by first | (simp [Region.wanted,yielded]; done) | simp [Region.wanted,yielded,undef]) hS ?_
  try simp only [Act.put,Sp1,Sp2,Sp3,Sp4,Sp5,Sp6]
  refine AnyG.takeNC (i:=10) rfl (by kernel_rfl) (fun _ _ _ h => h) (by first | (simp [Region.wanted,yielded]; done) | simp [Region.wanted,yielded,undef]) hS ?_
  try simp only [Act.put,Sp1,Sp2,Sp3,Sp4,Sp5,Sp6]
  refine AnyG.takeNC (i:=11) rfl (by kernel_rfl) (fun _ _ _ h => h) (by first | (simp [Region.wanted,yielded]; done) | simp [Region.wanted,yielded,undef]) hS ?_
  try simp only [Act.put,Sp1,Sp2,Sp3,Sp4,Sp5,Sp6]
  refine AnyG.takeC (i:=12) (v:=?_) rfl (by kernel_rfl) (fun _ _ _ h => h) rfl ?_ hS ?_
  rotate_left
  ·(intro w' hSw; (try dsimp only at hSw); go_simp; try with_reducible rfl)
  try simp only [Act.put,Sp1,Sp2,Sp3,Sp4,Sp5,Sp6]
  refine AnyG.takeC (i:=13) (v:=?_) rfl (by kernel_rfl) (fun _ _ _ h => h) rfl ?_ hS ?_
  rotate_left
  ·(intro w' hSw; (try dsimp only at hSw); go_simp; try with_reducible rfl)
  try simp only [Act.put,Sp1,Sp2,Sp3,Sp4,Sp5,Sp6]
  refine AnyG.done (by kernel_rfl) ?_ _
  go_simp
  go_wp2_with fail
  go_ret
  exact ⟨by simp,B0.trans (hS.mono B0.size)⟩
 | true =>
  rw [hf] at hgd
  rw [hgd]
  have HF:=Lib.hid hf
  clear hf hgd
  go_enter Try.func28,Try.ntmps28
  go_upto_region 1 with fail
  rw [HV.out]
  go_wp2_with fail
  refine AnyG.startC (by kernel_rfl) ?_
  refine AnyG.takeP (i:=1) (v:=?_) rfl (by kernel_rfl) (fun _ _ _ h => h) rfl ?_ ?_
  rotate_left
  ·(intro w'; go_simp; try with_reducible rfl)
  try simp only [Act.put,Sp1,Sp2,Sp3,Sp4,Sp5,Sp6]
  refine AnyG.takeP (i:=3) (v:=?_) rfl (by kernel_rfl) (fun _ _ _ h => h) rfl ?_ ?_
  rotate_left
  ·(intro w'; go_simp; try with_reducible rfl)
  try simp only [Act.put,Sp1,Sp2,Sp3,Sp4,Sp5,Sp6]
  refine AnyG.takeP (i:=5) (v:=?_) rfl (by kernel_rfl) (fun _ _ _ h => h) rfl ?_ ?_
  rotate_left
  ·(intro w'; go_simp; try with_reducible rfl)
  try simp only [Act.put,Sp1,Sp2,Sp3,Sp4,Sp5,Sp6]
  refine AnyG.enter (fun w' : World => Below V.heap.size V w') (fun i => i != 13) ?_
  have hS : (fun w' : World => Below V.heap.size V w') (World.drew _):=(Below.refl _ _).drew
  refine AnyG.takeC (i:=0) (v:=?_) rfl (by kernel_rfl) (fun _ _ _ h => h) rfl ?_ hS ?_
  rotate_left
  ·(intro w' hSw; (try dsimp only at hSw); obtain ⟨l0,l1,l2,l3,lf2,lz⟩:=(k1.call hSw).four; go_simp; try with_reducible rfl)
  try simp only [Act.put,Sp1,Sp2,Sp3,Sp4,Sp5,Sp6]
  refine AnyG.takeC (i:=4) (v:=?_) rfl (by kernel_rfl) (fun _ _ _ h => h) rfl ?_ hS ?_
  rotate_left
  ·(intro w' hSw; (try dsimp only at hSw); obtain ⟨l0,l1,l2,l3,lf2,lz⟩:=(k1.call hSw).four; go_simp; try with_reducible rfl)
  try simp only [Act.put,Sp1,Sp2,Sp3,Sp4,Sp5,Sp6]
  refine AnyG.takeC (i:=6) (v:=?_) rfl (by kernel_rfl) (fun _ _ _ h => h) rfl ?_ hS ?_
  rotate_left
  ·(intro w' hSw; (try dsimp only at hSw); obtain ⟨l0,l1,l2,l3,lf2,lz⟩:=(k1.call hSw).four; go_simp; try with_reducible rfl)
  try simp only [Act.put,Sp1,Sp2,Sp3,Sp4,Sp5,Sp6]
  refine AnyG.one (i:=2) (by kernel_rfl) rfl rfl ?_
  go_simp
  refine (refKilos_any LA ln lc BA bn bc o SA bn sc BL _ HB.out (hA1.call hS) HO.out HL.out (Nat.le_refl _) (hS1.call hS) H6.out).mono ?_
  rintro e2 y2 ⟨rfl,hb2⟩
  refine Onward.on (hS.trans (hb2.mono hS.size)) (fun hS2 => ?_)
  clear hS
  have hS:=hS2
  clear hS2
  try simp only [Act.put,Sp1,Sp2,Sp3,Sp4,Sp5,Sp6]
  refine AnyG.one (i:=7) (by kernel_rfl) rfl rfl ?_
  go_simp
  refine (from65_any _ _ _ _).mono ?_
  rintro e7 y7 ⟨rfl,hb7⟩
  rw [HF.out]
  refine Onward.on (hS.trans (hb7.mono hS.size)) (fun hS2 => ?_)
  clear hS
  have hS:=hS2
  clear hS2
  try simp only [Act.put,Sp1,Sp2,Sp3,Sp4,Sp5,Sp6]
  refine AnyG.takeC (i:=8) (v:=?_) rfl (by kernel_rfl) (fun _ _ _ h => h) rfl ?_ hS ?_
  rotate_left
  ·(intro w' hSw; (try dsimp only at hSw); go_simp; try with_reducible rfl)
  try simp only [Act.put,Sp1,Sp2,Sp3,Sp4,Sp5,Sp6]
  refine AnyG.takeGC (i:=9) (v:=?_) rfl (by kernel_rfl) (fun _ _ _ h => h) (by first | (simp [Region.wanted,yielded]; done) | simp [Region.wanted,yielded,undef]) ?_ hS ?_
  rotate_left
  ·(intro w' hSw; (try dsimp only at hSw); obtain ⟨l0,l1,l2,l3,lf2,lz⟩:=(k1.call hSw).four; go_simp; try with_reducible rfl)
  try simp only [Act.put,Sp1,Sp2,Sp3,Sp4,Sp5,Sp6]
  refine AnyG.takeGC (i:=10) (v:=?_) rfl (by kernel_rfl) (fun _ _ _ h => h) (by first | (simp [Region.wanted,yielded]; done) | simp [Region.wanted,yielded,undef]) ?_ hS ?_
  rotate_left
  ·(intro w' hSw; (try dsimp only at hSw); go_simp; try with_reducible rfl)
  try simp only [Act.put,Sp1,Sp2,Sp3,Sp4,Sp5,Sp6]
  refine AnyG.oneC (i:=11) (by kernel_rfl) rfl (by first | (simp [Region.wanted,yielded]; done) | simp [Region.wanted,yielded,undef]) ?_
  go_simp
  refine (refHolds_any LA ln lc BA bn bc o SA sc BL true _ HLN.out HB.out (hA1.call hS) HO.out HL.out (hS1.call hS) H6.out).mono ?_
  rintro e11 y11 ⟨rfl,hb11⟩
  refine Onward.on (hS.trans (hb11.mono hS.size)) (fun hS2 => ?_)
  clear hS
  have hS:=hS2
  clear hS2
  try simp only [Act.put,Sp1,Sp2,Sp3,Sp4,Sp5,Sp6]
  refine AnyG.takeC (i:=12) (v:=?_) rfl (by kernel_rfl) (fun _ _ _ h => h) rfl ?_ hS ?_
  rotate_left
  ·(intro w' hSw; (try dsimp only at hSw); go_simp; try with_reducible rfl)
  try simp only [Act.put,Sp1,Sp2,Sp3,Sp4,Sp5,Sp6]
  refine AnyG.takeC (i:=13) (v:=?_) rfl (by kernel_rfl) (fun _ _ _ h => h) rfl ?_ hS ?_
  rotate_left
  ·(intro w' hSw; (try dsimp only at hSw); go_simp; try with_reducible rfl)
  try simp only [Act.put,Sp1,Sp2,Sp3,Sp4,Sp5,Sp6]
  refine AnyG.done (by kernel_rfl) ?_ _
  go_simp
  go_wp2_with fail
  go_ret
  exact ⟨by simp,B0.trans (hS.mono B0.size)⟩
end Go.Proofs.Ytmemcopfeabcgaa
