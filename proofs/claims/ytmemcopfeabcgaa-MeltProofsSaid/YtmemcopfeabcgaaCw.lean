/- The reference's cheapest blend. -/
import Derived.Test.YtmemcopfeabcgaaBs
import Derived.Test.YtmemcopfeabcgaaRk
import Derived.Test.YtmemcopfeabcgaaRc
set_option linter.unusedSimpArgs false
set_option linter.unusedVariables false
namespace Go.Proofs.Ytmemcopfeabcgaa
open Go Go.RowKit
/-- The first of the cheapest good lists among xs. -/
def FstMin (o : Od) (xs : List (List Int)) : Option (List Int) → Prop
 | none => ∀ x ∈ xs,¬ Good o (lf x)
 | some m => ∃ i : Nat,xs[i]? = some m ∧ Good o (lf m) ∧ (∀ x ∈ xs,Good o (lf x) → cst o (lf m) o.bs.length ≤ cst o (lf x) o.bs.length) ∧ ∀ (j : Nat) (x : List Int),j < i → xs[j]? = some x → Good o (lf x) → cst o (lf m) o.bs.length < cst o (lf x) o.bs.length
theorem FstMin.bad {o : Od} {xs : List (List Int)} {r : Option (List Int)} {x : List Int} (h : FstMin o xs r) (hg : ¬ Good o (lf x)) : FstMin o (xs ++ [x]) r:=by
 cases r with
 | none =>
  intro y hy
  rcases List.mem_append.1 hy with hy | hy
  ·exact h y hy
  ·rw [List.mem_singleton.1 hy]; exact hg
 | some m =>
  obtain ⟨i,h1,h2,h3,h4⟩:=h
  have hi:=(List.getElem?_eq_some_iff.1 h1).1
  refine ⟨i,by rw [List.getElem?_append_left hi]; exact h1,h2,fun y hy hgy => ?_,fun j y hj hy hgy => ?_⟩
  ·rcases List.mem_append.1 hy with hy | hy
   ·exact h3 y hy hgy
   ·rw [List.mem_singleton.1 hy] at hgy; exact absurd hgy hg
  ·rw [List.getElem?_append_left (by omega)] at hy
   exact h4 j y hj hy hgy
theorem FstMin.dear {o : Od} {xs : List (List Int)} {m x : List Int} (h : FstMin o xs (some m)) (hc : cst o (lf m) o.bs.length ≤ cst o (lf x) o.bs.length) : FstMin o (xs ++ [x]) (some m):=by
 obtain ⟨i,h1,h2,h3,h4⟩:=h
 have hi:=(List.getElem?_eq_some_iff.1 h1).1
 refine ⟨i,by rw [List.getElem?_append_left hi]; exact h1,h2,fun y hy hgy => ?_,fun j y hj hy hgy => ?_⟩
 ·rcases List.mem_append.1 hy with hy | hy
  ·exact h3 y hy hgy
  ·rw [List.mem_singleton.1 hy]; exact hc
 ·rw [List.getElem?_append_left (by omega)] at hy
  exact h4 j y hj hy hgy
theorem FstMin.first {o : Od} {xs : List (List Int)} {x : List Int} (h : FstMin o xs none) (hg : Good o (lf x)) : FstMin o (xs ++ [x]) (some x):=by
 refine ⟨xs.length,by simp,hg,fun y hy hgy => ?_,fun j y hj hy hgy => ?_⟩
 ·rcases List.mem_append.1 hy with hy | hy
  ·exact absurd hgy (h y hy)
  ·rw [List.mem_singleton.1 hy]; exact Int.le_refl _
 ·rw [List.getElem?_append_left hj] at hy
  exact absurd hgy (h y (List.mem_of_getElem? hy))
theorem FstMin.cheaper {o : Od} {xs : List (List Int)} {m x : List Int} (h : FstMin o xs (some m)) (hg : Good o (lf x)) (hc : cst o (lf x) o.bs.length < cst o (lf m) o.bs.length) : FstMin o (xs ++ [x]) (some x):=by
 obtain ⟨i,h1,h2,h3,h4⟩:=h
 refine ⟨xs.length,by simp,hg,fun y hy hgy => ?_,fun j y hj hy hgy => ?_⟩
 ·rcases List.mem_append.1 hy with hy | hy
  ·have:=h3 y hy hgy; omega
  ·rw [List.mem_singleton.1 hy]; exact Int.le_refl _
 ·rw [List.getElem?_append_left hj] at hy
  have:=h3 y (List.mem_of_getElem? hy) hgy
  omega
theorem allB_len7 : ∀ (gs : List Int),(∀ g ∈ gs,g ≤ 6) → (allB gs).length ≤ 7 ^ gs.length
 | [],_ => by simp [allB]
 | g :: gs,h => by
  have ih:=allB_len7 gs fun x hx => h x (by simp [hx])
  have hg:=h g (by simp)
  have e : ∀ k : Nat,((List.range k).flatMap fun (n : Nat) => (allB gs).map fun l => (n : Int) :: l).length = k * (allB gs).length:=fun k => by
   induction k with
   | zero => simp
   | succ k ihk => rw [List.range_succ,List.flatMap_append,List.length_append,ihk]; simp [Nat.succ_mul]
  simp only [allB]
  rw [e,List.length_cons,Nat.pow_succ,Nat.mul_comm]
  exact Nat.mul_le_mul ih (by omega)
theorem allB_ok {o : Od} (ho : o.Ok) : (allB o.gs).length ≤ 2401:=by
 have h1:=allB_len7 o.gs (fun g hg => by
  unfold Od.gs at hg
  obtain ⟨b,hb,rfl⟩:=List.mem_map.1 hg
  exact (ho.bs b hb).g2)
 rw [gs_len] at h1
 exact Nat.le_trans h1 (Nat.pow_le_pow_right (by omega) ho.b2)
theorem Fit.ck6 {o : Od} (ho : o.Ok) {x : List Int} (h : Fit o.gs x) : Six (lf x):=(ckBl_zero (ckBl_ok ho (by rw [h.len,gs_len]) fun j hj => by
 rw [← gs_at]
 exact h.at_ j (by rw [gs_len]; exact hj))).six
/-- The list that has been found, as a value. -/
def FV (w : World) (bn : Nat) (v : Value) : Option (List Int) → Prop
 | none => v = .slice none 0 0
 | some m => ∃ (A : Option Addr) (c : Nat),v = .slice A bn c ∧ m.length = bn ∧ Six (lf m) ∧ Sl w w.heap.size 1 A (inr m)
theorem FV.call {w w' : World} {bn : Nat} {v : Value} {r : Option (List Int)} (h : FV w bn v r) (hb : Below w.heap.size w w') : FV w' bn v r:=by
 cases r with
 | none => exact h
 | some m => obtain ⟨A,c,h1,h2,h3,h4⟩:=h; exact ⟨A,c,h1,h2,h3,h4.call hb⟩
set_option maxRecDepth 100000 in
set_option maxHeartbeats 8000000 in
theorem refCheapest_any (LA : Option Addr) (ln lc : Nat) (BA : Option Addr) (bn bc : Nat) (o : Od) (w : World) (hl : o.lm.length = ln) (hb' : o.bs.length = bn) (hA : OrdAt w w.heap.size LA BA o) (ho : o.Ok) :
  Calls Try.prog 76 #[.agg #[.slice LA ln lc,.int .i64 o.le,.int .i64 o.mo,.slice BA bn bc]] w fun e w' => (∃ (r : Option (List Int)) (v : Value),FstMin o (allB o.gs) r ∧ e = .returned (.tuple #[v,.bool r.isSome]) ∧ FV w' bn v r) ∧ Below w.heap.size w w':=by
 have k1:=Bx.new w 27 #[.slice LA ln lc,.int .i64 o.le,.int .i64 o.mo,.slice BA bn bc]
 have B0:=(Below.refl w.heap.size w).alloc (Nat.le_refl _) (.cells #[.slice LA ln lc,.int .i64 o.le,.int .i64 o.mo,.slice BA bn bc] 27)
 obtain ⟨V,hV⟩ : ∃ V,w.alloc (.cells #[.slice LA ln lc,.int .i64 o.le,.int .i64 o.mo,.slice BA bn bc] 27) = V:=⟨_,rfl⟩
 have hA1:=hA.call B0
 rw [hV] at k1 B0 hA1
 have HBN:=Lib.hid hb'
 have HLN:=Lib.hid hl
 have HV:=Lib.hid hV
 have HOK:=Lib.hid ho
 have hcap:=allB_ok ho
 clear hV hl hb' hA ho
 obtain ⟨l0,l1,l2,l3,lf',lz⟩:=k1.four
 go_enter Try.func76,Try.ntmps76
 go_upto_region 1 with fail
 rw [HV.out]
 go_upto_region 4 with (first
  | (go_at_call 21; refine (refBlends_any LA ln lc BA bn bc o HLN.out HBN.out HOK.out bn 0 [] none 0 V.heap.size V (by omega) rfl hA1 (World.ownsRow_nil _ _ _ _) (Nat.le_refl _) (by rw [List.drop_zero]; omega)).mono ?_; rintro e V4 ⟨RA,rc,vs,rfl,oR,LR,hq4⟩)
  | fail)
 have el : ((allB (o.gs.drop 0)).map fun l => [] ++ l) = allB o.gs:=by simp
 rw [el] at oR LR
 have AT:=LR.at_ oR
 have kO4:=k1.call hq4
 have hO4:=hA1.call hq4
 have hB4:=B0.trans (hq4.mono B0.size)
 clear l0 l1 l2 l3 lf' lz k1 hA1 B0 hq4 el oR LR vs
 have HFIT:=Lib.hid (fun x (hx : x ∈ allB o.gs) => mem_allB.1 hx)
 obtain ⟨all,hall⟩ : ∃ a,allB o.gs = a:=⟨_,rfl⟩
 obtain ⟨nn,hnn⟩ : ∃ k,all.length = k:=⟨_,rfl⟩
 rw [hall,hnn] at hcap
 rw [hall] at AT HFIT ⊢
 rw [hnn]
 have HALL:=Lib.hid (And.intro hall hnn)
 clear hall hnn
 obtain ⟨U,hU⟩ : ∃ U,U = V4:=⟨_,rfl⟩
 subst hU
 go_wp2_with fail
 go_loopw [4,5,7] (fun bv sv v wr => ∃ (j : Nat) (r : Option (List Int)) (u : Value),bv = u ∧ v = .int .i64 j ∧ j ≤ nn ∧ Hid (FstMin o (all.take j) r) ∧ sv = .bool r.isSome ∧ FV wr bn u r ∧ Below U.heap.size U wr) (fun _ _ v _ => nn - (intOf v).toNat)
 case atStart => exact ⟨0,none,_,rfl,rfl,by omega,Lib.hid (fun x hx => by simp at hx),rfl,rfl,Below.refl _ _⟩
 case round =>
  obtain ⟨j,r,u,rfl,rfl,hj,hF,rfl,hv,hUr⟩:=hrel
  by_cases hjn : j < nn
  ·have hjl : j < all.length:=by rw [HALL.out.2]; exact hjn
   obtain ⟨x,hx⟩ : ∃ x,all[j]? = some x:=⟨_,List.getElem?_eq_getElem hjl⟩
   have hxf:=HFIT.out x (List.mem_of_getElem? hx)
   have hxl : x.length = bn:=by rw [hxf.len,gs_len,HBN.out]
   have h6:=hxf.ck6 HOK.out
   obtain ⟨ad,G,gc,rfl,hab,gx,gs⟩:=AT j x hx
   rw [hxl] at gx
   have hiw : IntKind.i64.wrap ((j : Int) + 1) = (j : Int) + 1:=IntWalk.i64_in _ (by omega)
   have htk : all.take (j + 1) = all.take j ++ [x]:=by rw [List.take_add_one,hx]; rfl
   have HXL:=Lib.hid hxl
   have H6:=Lib.hid h6
   have HTK:=Lib.hid htk
   have HJ:=Lib.hid (And.intro hj hjn)
   clear hx hxf hxl h6 htk
   cases hgd : decide (Good o (lf x))
   ·have HG:=Lib.hid hgd
    clear hgd
    go_wp2_with fail
    refine AnyG.startC (by kernel_rfl) ?_
    refine AnyG.takeP (i:=1) (v:=?_) rfl (by kernel_rfl) (fun _ _ _ h => h) rfl ?_ ?_
    rotate_left
    ·(intro w'; go_simp; try with_reducible rfl)
    try simp only [Act.put,Sp1,Sp2,Sp3,Sp4,Sp5,Sp6]
    refine AnyG.takeP (i:=2) (v:=?_) rfl (by kernel_rfl) (fun _ _ _ h => h) rfl ?_ ?_
    rotate_left
    ·(intro w'; go_simp; try with_reducible rfl)
    try simp only [Act.put,Sp1,Sp2,Sp3,Sp4,Sp5,Sp6]
    refine AnyG.takeP (i:=3) (v:=?_) rfl (by kernel_rfl) (fun _ _ _ h => h) rfl ?_ ?_
    rotate_left
    ·(intro w'; go_simp; try with_reducible rfl)
    try simp only [Act.put,Sp1,Sp2,Sp3,Sp4,Sp5,Sp6]
    refine AnyG.enter (fun w' : World => Below wr.heap.size wr w') (fun i => true) ?_
    have hS : (fun w' : World => Below wr.heap.size wr w') (World.drew _):=(Below.refl _ _).drew
    refine AnyG.takeC (i:=0) (v:=?_) rfl (by kernel_rfl) (fun _ _ _ h => h) rfl ?_ hS ?_
    rotate_left
    ·(intro w' hSw; (try dsimp only at hSw); obtain ⟨l0,l1,l2,l3,lf2,lz⟩:=(kO4.call (hUr.trans (hSw.mono hUr.size))).four; go_simp; try with_reducible rfl)
    try simp only [Act.put,Sp1,Sp2,Sp3,Sp4,Sp5,Sp6]
    refine AnyG.takeC (i:=4) (v:=?_) rfl (by kernel_rfl) (fun _ _ _ h => h) rfl ?_ hS ?_
    rotate_left
    ·(intro w' hSw; (try dsimp only at hSw); have gx2:=cellC (hUr.trans (hSw.mono hUr.size)) gx; go_simp; try with_reducible rfl)
    try simp only [Act.put,Sp1,Sp2,Sp3,Sp4,Sp5,Sp6]
    refine AnyG.one (i:=5) (by kernel_rfl) rfl rfl ?_
    go_simp
    refine (refGood_any LA ln lc BA bn bc o G gc x _ HLN.out HBN.out (hO4.call (hUr.trans (hS.mono hUr.size))) HOK.out HXL.out (gs.call (hUr.trans (hS.mono hUr.size))) H6.out).mono ?_
    rintro e5 y5 ⟨rfl,hb5⟩
    rw [HG.out]
    refine Onward.on (hS.trans (hb5.mono hS.size)) (fun hS2 => ?_)
    clear hS
    have hS:=hS2
    clear hS2
    try simp only [Act.put,Sp1,Sp2,Sp3,Sp4,Sp5,Sp6]
    refine AnyG.takeC (i:=6) (v:=?_) rfl (by kernel_rfl) (fun _ _ _ h => h) rfl ?_ hS ?_
    rotate_left
    ·(intro w' hSw; (try dsimp only at hSw); go_simp; try with_reducible rfl)
    try simp only [Act.put,Sp1,Sp2,Sp3,Sp4,Sp5,Sp6]
    refine AnyG.takeNC (i:=7) rfl (by kernel_rfl) (fun _ _ _ h => h) (by first | (simp [Region.wanted,yielded]; done) | simp [Region.wanted,yielded,undef]) hS ?_
    try simp only [Act.put,Sp1,Sp2,Sp3,Sp4,Sp5,Sp6]
    refine AnyG.takeNC (i:=8) rfl (by kernel_rfl) (fun _ _ _ h => h) (by first | (simp [Region.wanted,yielded]; done) | simp [Region.wanted,yielded,undef]) hS ?_
    try simp only [Act.put,Sp1,Sp2,Sp3,Sp4,Sp5,Sp6]
    refine AnyG.takeNC (i:=9) rfl (by kernel_rfl) (fun _ _ _ h => h) (by first | (simp [Region.wanted,yielded]; done) | simp [Region.wanted,yielded,undef]) hS ?_
    try simp only [Act.put,Sp1,Sp2,Sp3,Sp4,Sp5,Sp6]
    refine AnyG.takeNC (i:=10) rfl (by kernel_rfl) (fun _ _ _ h => h) (by first | (simp [Region.wanted,yielded]; done) | simp [Region.wanted,yielded,undef]) hS ?_
    try simp only [Act.put,Sp1,Sp2,Sp3,Sp4,Sp5,Sp6]
    refine AnyG.takeNC (i:=11) rfl (by kernel_rfl) (fun _ _ _ h => h) (by first | (simp [Region.wanted,yielded]; done) | simp [Region.wanted,yielded,undef]) hS ?_
    try simp only [Act.put,Sp1,Sp2,Sp3,Sp4,Sp5,Sp6]
    refine AnyG.takeNC (i:=12) rfl (by kernel_rfl) (fun _ _ _ h => h) (by first | (simp [Region.wanted,yielded]; done) | simp [Region.wanted,yielded,undef]) hS ?_
    try simp only [Act.put,Sp1,Sp2,Sp3,Sp4,Sp5,Sp6]
    refine AnyG.takeNC (i:=13) rfl (by kernel_rfl) (fun _ _ _ h => h) (by first | (simp [Region.wanted,yielded]; done) | simp [Region.wanted,yielded,undef]) hS ?_
    try simp only [Act.put,Sp1,Sp2,Sp3,Sp4,Sp5,Sp6]
    refine AnyG.takeNC (i:=14) rfl (by kernel_rfl) (fun _ _ _ h => h) (by first | (simp [Region.wanted,yielded]; done) | simp [Region.wanted,yielded,undef]) hS ?_
    try simp only [Act.put,Sp1,Sp2,Sp3,Sp4,Sp5,Sp6]
    refine AnyG.takeNC (i:=15) rfl (by kernel_rfl) (fun _ _ _ h => h) (by first | (simp [Region.wanted,yielded]; done) | simp [Region.wanted,yielded,undef]) hS ?_
    try simp only [Act.put,Sp1,Sp2,Sp3,Sp4,Sp5,Sp6]
    refine AnyG.takeNC (i:=16) rfl (by kernel_rfl) (fun _ _ _ h => h) (by first | (simp [Region.wanted,yielded]; done) | simp [Region.wanted,yielded,undef]) hS ?_
    try simp only [Act.put,Sp1,Sp2,Sp3,Sp4,Sp5,Sp6]
    refine AnyG.takeNC (i:=17) rfl (by kernel_rfl) (fun _ _ _ h => h) (by first | (simp [Region.wanted,yielded]; done) | simp [Region.wanted,yielded,undef]) hS ?_
    try simp only [Act.put,Sp1,Sp2,Sp3,Sp4,Sp5,Sp6]
    refine AnyG.takeNC (i:=18) rfl (by kernel_rfl) (fun _ _ _ h => h) (by first | (simp [Region.wanted,yielded]; done) | simp [Region.wanted,yielded,undef]) hS ?_
    try simp only [Act.put,Sp1,Sp2,Sp3,Sp4,Sp5,Sp6]
    refine AnyG.takeNC (i:=19) rfl (by kernel_rfl) (fun _ _ _ h => h) (by first | (simp [Region.wanted,yielded]; done) | simp [Region.wanted,yielded,undef]) hS ?_
    try simp only [Act.put,Sp1,Sp2,Sp3,Sp4,Sp5,Sp6]
    refine AnyG.takeNC (i:=20) rfl (by kernel_rfl) (fun _ _ _ h => h) (by first | (simp [Region.wanted,yielded]; done) | simp [Region.wanted,yielded,undef]) hS ?_
    try simp only [Act.put,Sp1,Sp2,Sp3,Sp4,Sp5,Sp6]
    refine AnyG.takeC (i:=21) (v:=?_) rfl (by kernel_rfl) (fun _ _ _ h => h) rfl ?_ hS ?_
    rotate_left
    ·(intro w' hSw; (try dsimp only at hSw); go_simp; try with_reducible rfl)
    try simp only [Act.put,Sp1,Sp2,Sp3,Sp4,Sp5,Sp6]
    refine AnyG.done (by kernel_rfl) ?_ _
    have hSE : Below wr.heap.size wr _:=hS
    clear hS
    go_simp
    go_wp2_with fail
    go_roundw
    case rel => exact ⟨j + 1,r,_,rfl,by go_num,by omega,Lib.hid (by rw [HTK.out]; exact hF.out.bad (of_decide_eq_false HG.out)),rfl,hv.call hSE,hUr.trans (hSE.mono hUr.size)⟩
    case measure => simp [intOf]; omega
   ·have HG:=Lib.hid hgd
    clear hgd
    cases r with
    | none =>
     obtain rfl:=hv
     go_wp2_with fail
     refine AnyG.startC (by kernel_rfl) ?_
     refine AnyG.takeP (i:=1) (v:=?_) rfl (by kernel_rfl) (fun _ _ _ h => h) rfl ?_ ?_
     rotate_left
     ·(intro w'; go_simp; try with_reducible rfl)
     try simp only [Act.put,Sp1,Sp2,Sp3,Sp4,Sp5,Sp6]
     refine AnyG.takeP (i:=2) (v:=?_) rfl (by kernel_rfl) (fun _ _ _ h => h) rfl ?_ ?_
     rotate_left
     ·(intro w'; go_simp; try with_reducible rfl)
     try simp only [Act.put,Sp1,Sp2,Sp3,Sp4,Sp5,Sp6]
     refine AnyG.takeP (i:=3) (v:=?_) rfl (by kernel_rfl) (fun _ _ _ h => h) rfl ?_ ?_
     rotate_left
     ·(intro w'; go_simp; try with_reducible rfl)
     try simp only [Act.put,Sp1,Sp2,Sp3,Sp4,Sp5,Sp6]
     refine AnyG.enter (fun w' : World => Below wr.heap.size wr w') (fun i => true) ?_
     have hS : (fun w' : World => Below wr.heap.size wr w') (World.drew _):=(Below.refl _ _).drew
     refine AnyG.takeC (i:=0) (v:=?_) rfl (by kernel_rfl) (fun _ _ _ h => h) rfl ?_ hS ?_
     rotate_left
     ·(intro w' hSw; (try dsimp only at hSw); obtain ⟨l0,l1,l2,l3,lf2,lz⟩:=(kO4.call (hUr.trans (hSw.mono hUr.size))).four; go_simp; try with_reducible rfl)
     try simp only [Act.put,Sp1,Sp2,Sp3,Sp4,Sp5,Sp6]
     refine AnyG.takeC (i:=4) (v:=?_) rfl (by kernel_rfl) (fun _ _ _ h => h) rfl ?_ hS ?_
     rotate_left
     ·(intro w' hSw; (try dsimp only at hSw); have gx2:=cellC (hUr.trans (hSw.mono hUr.size)) gx; go_simp; try with_reducible rfl)
     try simp only [Act.put,Sp1,Sp2,Sp3,Sp4,Sp5,Sp6]
     refine AnyG.one (i:=5) (by kernel_rfl) rfl rfl ?_
     go_simp
     refine (refGood_any LA ln lc BA bn bc o G gc x _ HLN.out HBN.out (hO4.call (hUr.trans (hS.mono hUr.size))) HOK.out HXL.out (gs.call (hUr.trans (hS.mono hUr.size))) H6.out).mono ?_
     rintro e5 y5 ⟨rfl,hb5⟩
     rw [HG.out]
     refine Onward.on (hS.trans (hb5.mono hS.size)) (fun hS2 => ?_)
     clear hS
     have hS:=hS2
     clear hS2
     try simp only [Act.put,Sp1,Sp2,Sp3,Sp4,Sp5,Sp6]
     refine AnyG.takeC (i:=6) (v:=?_) rfl (by kernel_rfl) (fun _ _ _ h => h) rfl ?_ hS ?_
     rotate_left
     ·(intro w' hSw; (try dsimp only at hSw); go_simp; try with_reducible rfl)
     try simp only [Act.put,Sp1,Sp2,Sp3,Sp4,Sp5,Sp6]
     refine AnyG.takeGC (i:=7) (v:=?_) rfl (by kernel_rfl) (fun _ _ _ h => h) (by first | (simp [Region.wanted,yielded]; done) | simp [Region.wanted,yielded,undef]) ?_ hS ?_
     rotate_left
     ·(intro w' hSw; (try dsimp only at hSw); go_simp; try with_reducible rfl)
     try simp only [Act.put,Sp1,Sp2,Sp3,Sp4,Sp5,Sp6]
     refine AnyG.takeGC (i:=8) (v:=?_) rfl (by kernel_rfl) (fun _ _ _ h => h) (by first | (simp [Region.wanted,yielded]; done) | simp [Region.wanted,yielded,undef]) ?_ hS ?_
     rotate_left
     ·(intro w' hSw; (try dsimp only at hSw); go_simp; try with_reducible rfl)
     try simp only [Act.put,Sp1,Sp2,Sp3,Sp4,Sp5,Sp6]
     refine AnyG.takeGC (i:=9) (v:=?_) rfl (by kernel_rfl) (fun _ _ _ h => h) (by first | (simp [Region.wanted,yielded]; done) | simp [Region.wanted,yielded,undef]) ?_ hS ?_
     rotate_left
     ·(intro w' hSw; (try dsimp only at hSw); go_simp; try with_reducible rfl)
     try simp only [Act.put,Sp1,Sp2,Sp3,Sp4,Sp5,Sp6]
     refine AnyG.takeNC (i:=10) rfl (by kernel_rfl) (fun _ _ _ h => h) (by first | (simp [Region.wanted,yielded]; done) | simp [Region.wanted,yielded,undef]) hS ?_
     try simp only [Act.put,Sp1,Sp2,Sp3,Sp4,Sp5,Sp6]
     refine AnyG.takeNC (i:=11) rfl (by kernel_rfl) (fun _ _ _ h => h) (by first | (simp [Region.wanted,yielded]; done) | simp [Region.wanted,yielded,undef]) hS ?_
     try simp only [Act.put,Sp1,Sp2,Sp3,Sp4,Sp5,Sp6]
     refine AnyG.takeNC (i:=12) rfl (by kernel_rfl) (fun _ _ _ h => h) (by first | (simp [Region.wanted,yielded]; done) | simp [Region.wanted,yielded,undef]) hS ?_
     try simp only [Act.put,Sp1,Sp2,Sp3,Sp4,Sp5,Sp6]
     refine AnyG.takeNC (i:=13) rfl (by kernel_rfl) (fun _ _ _ h => h) (by first | (simp [Region.wanted,yielded]; done) | simp [Region.wanted,yielded,undef]) hS ?_
     try simp only [Act.put,Sp1,Sp2,Sp3,Sp4,Sp5,Sp6]
     refine AnyG.takeNC (i:=14) rfl (by kernel_rfl) (fun _ _ _ h => h) (by first | (simp [Region.wanted,yielded]; done) | simp [Region.wanted,yielded,undef]) hS ?_
     try simp only [Act.put,Sp1,Sp2,Sp3,Sp4,Sp5,Sp6]
     refine AnyG.takeNC (i:=15) rfl (by kernel_rfl) (fun _ _ _ h => h) (by first | (simp [Region.wanted,yielded]; done) | simp [Region.wanted,yielded,undef]) hS ?_
     try simp only [Act.put,Sp1,Sp2,Sp3,Sp4,Sp5,Sp6]
     refine AnyG.takeNC (i:=16) rfl (by kernel_rfl) (fun _ _ _ h => h) (by first | (simp [Region.wanted,yielded]; done) | simp [Region.wanted,yielded,undef]) hS ?_
     try simp only [Act.put,Sp1,Sp2,Sp3,Sp4,Sp5,Sp6]
     refine AnyG.takeNC (i:=17) rfl (by kernel_rfl) (fun _ _ _ h => h) (by first | (simp [Region.wanted,yielded]; done) | simp [Region.wanted,yielded,undef]) hS ?_
     try simp only [Act.put,Sp1,Sp2,Sp3,Sp4,Sp5,Sp6]
     refine AnyG.takeNC (i:=18) rfl (by kernel_rfl) (fun _ _ _ h => h) (by first | (simp [Region.wanted,yielded]; done) | simp [Region.wanted,yielded,undef]) hS ?_
     try simp only [Act.put,Sp1,Sp2,Sp3,Sp4,Sp5,Sp6]
     refine AnyG.takeNC (i:=19) rfl (by kernel_rfl) (fun _ _ _ h => h) (by first | (simp [Region.wanted,yielded]; done) | simp [Region.wanted,yielded,undef]) hS ?_
     try simp only [Act.put,Sp1,Sp2,Sp3,Sp4,Sp5,Sp6]
     refine AnyG.takeGC (i:=20) (v:=?_) rfl (by kernel_rfl) (fun _ _ _ h => h) (by first | (simp [Region.wanted,yielded]; done) | simp [Region.wanted,yielded,undef]) ?_ hS ?_
     rotate_left
     ·(intro w' hSw; (try dsimp only at hSw); go_simp; try with_reducible rfl)
     try simp only [Act.put,Sp1,Sp2,Sp3,Sp4,Sp5,Sp6]
     refine AnyG.takeC (i:=21) (v:=?_) rfl (by kernel_rfl) (fun _ _ _ h => h) rfl ?_ hS ?_
     rotate_left
     ·(intro w' hSw; (try dsimp only at hSw); go_simp; try with_reducible rfl)
     try simp only [Act.put,Sp1,Sp2,Sp3,Sp4,Sp5,Sp6]
     refine AnyG.done (by kernel_rfl) ?_ _
     have hSE : Below wr.heap.size wr _:=hS
     clear hS
     go_simp
     have gx3:=(cellC (hUr.trans (hSE.mono hUr.size)) gx)
     go_wp2_with fail
     go_roundw
     case rel => exact ⟨j + 1,(some x),_,rfl,by go_num,by omega,Lib.hid (by rw [HTK.out]; exact hF.out.first (of_decide_eq_true HG.out)),rfl,⟨G,gc,rfl,HXL.out,H6.out,gs.call (hUr.trans (hSE.mono hUr.size))⟩,hUr.trans (hSE.mono hUr.size)⟩
     case measure => simp [intOf]; omega
    | some m =>
     obtain ⟨MA,mc,rfl,hml,hm6,hms⟩:=hv
     have HML:=Lib.hid hml
     have HM6:=Lib.hid hm6
     clear hml hm6
     cases hlt : decide (cst o (lf x) bn < cst o (lf m) bn)
     ·have HLT:=Lib.hid hlt
      clear hlt
      go_wp2_with fail
      refine AnyG.startC (by kernel_rfl) ?_
      refine AnyG.takeP (i:=1) (v:=?_) rfl (by kernel_rfl) (fun _ _ _ h => h) rfl ?_ ?_
      rotate_left
      ·(intro w'; go_simp; try with_reducible rfl)
      try simp only [Act.put,Sp1,Sp2,Sp3,Sp4,Sp5,Sp6]
      refine AnyG.takeP (i:=2) (v:=?_) rfl (by kernel_rfl) (fun _ _ _ h => h) rfl ?_ ?_
      rotate_left
      ·(intro w'; go_simp; try with_reducible rfl)
      try simp only [Act.put,Sp1,Sp2,Sp3,Sp4,Sp5,Sp6]
      refine AnyG.takeP (i:=3) (v:=?_) rfl (by kernel_rfl) (fun _ _ _ h => h) rfl ?_ ?_
      rotate_left
      ·(intro w'; go_simp; try with_reducible rfl)
      try simp only [Act.put,Sp1,Sp2,Sp3,Sp4,Sp5,Sp6]
      refine AnyG.enter (fun w' : World => Below wr.heap.size wr w') (fun i => true) ?_
      have hS : (fun w' : World => Below wr.heap.size wr w') (World.drew _):=(Below.refl _ _).drew
      refine AnyG.takeC (i:=0) (v:=?_) rfl (by kernel_rfl) (fun _ _ _ h => h) rfl ?_ hS ?_
      rotate_left
      ·(intro w' hSw; (try dsimp only at hSw); obtain ⟨l0,l1,l2,l3,lf2,lz⟩:=(kO4.call (hUr.trans (hSw.mono hUr.size))).four; go_simp; try with_reducible rfl)
      try simp only [Act.put,Sp1,Sp2,Sp3,Sp4,Sp5,Sp6]
      refine AnyG.takeC (i:=4) (v:=?_) rfl (by kernel_rfl) (fun _ _ _ h => h) rfl ?_ hS ?_
      rotate_left
      ·(intro w' hSw; (try dsimp only at hSw); have gx2:=cellC (hUr.trans (hSw.mono hUr.size)) gx; go_simp; try with_reducible rfl)
      try simp only [Act.put,Sp1,Sp2,Sp3,Sp4,Sp5,Sp6]
      refine AnyG.one (i:=5) (by kernel_rfl) rfl rfl ?_
      go_simp
      refine (refGood_any LA ln lc BA bn bc o G gc x _ HLN.out HBN.out (hO4.call (hUr.trans (hS.mono hUr.size))) HOK.out HXL.out (gs.call (hUr.trans (hS.mono hUr.size))) H6.out).mono ?_
      rintro e5 y5 ⟨rfl,hb5⟩
      rw [HG.out]
      refine Onward.on (hS.trans (hb5.mono hS.size)) (fun hS2 => ?_)
      clear hS
      have hS:=hS2
      clear hS2
      try simp only [Act.put,Sp1,Sp2,Sp3,Sp4,Sp5,Sp6]
      refine AnyG.takeC (i:=6) (v:=?_) rfl (by kernel_rfl) (fun _ _ _ h => h) rfl ?_ hS ?_
      rotate_left
      ·(intro w' hSw; (try dsimp only at hSw); go_simp; try with_reducible rfl)
      try simp only [Act.put,Sp1,Sp2,Sp3,Sp4,Sp5,Sp6]
      refine AnyG.takeGC (i:=7) (v:=?_) rfl (by kernel_rfl) (fun _ _ _ h => h) (by first | (simp [Region.wanted,yielded]; done) | simp [Region.wanted,yielded,undef]) ?_ hS ?_
      rotate_left
      ·(intro w' hSw; (try dsimp only at hSw); go_simp; try with_reducible rfl)
      try simp only [Act.put,Sp1,Sp2,Sp3,Sp4,Sp5,Sp6]
      refine AnyG.takeGC (i:=8) (v:=?_) rfl (by kernel_rfl) (fun _ _ _ h => h) (by first | (simp [Region.wanted,yielded]; done) | simp [Region.wanted,yielded,undef]) ?_ hS ?_
      rotate_left
      ·(intro w' hSw; (try dsimp only at hSw); go_simp; try with_reducible rfl)
      try simp only [Act.put,Sp1,Sp2,Sp3,Sp4,Sp5,Sp6]
      refine AnyG.takeGC (i:=9) (v:=?_) rfl (by kernel_rfl) (fun _ _ _ h => h) (by first | (simp [Region.wanted,yielded]; done) | simp [Region.wanted,yielded,undef]) ?_ hS ?_
      rotate_left
      ·(intro w' hSw; (try dsimp only at hSw); go_simp; try with_reducible rfl)
      try simp only [Act.put,Sp1,Sp2,Sp3,Sp4,Sp5,Sp6]
      refine AnyG.takeGC (i:=10) (v:=?_) rfl (by kernel_rfl) (fun _ _ _ h => h) (by first | (simp [Region.wanted,yielded]; done) | simp [Region.wanted,yielded,undef]) ?_ hS ?_
      rotate_left
      ·(intro w' hSw; (try dsimp only at hSw); obtain ⟨l0,l1,l2,l3,lf2,lz⟩:=(kO4.call (hUr.trans (hSw.mono hUr.size))).four; go_simp; try with_reducible rfl)
      try simp only [Act.put,Sp1,Sp2,Sp3,Sp4,Sp5,Sp6]
      refine AnyG.takeGC (i:=11) (v:=?_) rfl (by kernel_rfl) (fun _ _ _ h => h) (by first | (simp [Region.wanted,yielded]; done) | simp [Region.wanted,yielded,undef]) ?_ hS ?_
      rotate_left
      ·(intro w' hSw; (try dsimp only at hSw); go_simp; try with_reducible rfl)
      try simp only [Act.put,Sp1,Sp2,Sp3,Sp4,Sp5,Sp6]
      refine AnyG.takeGC (i:=12) (v:=?_) rfl (by kernel_rfl) (fun _ _ _ h => h) (by first | (simp [Region.wanted,yielded]; done) | simp [Region.wanted,yielded,undef]) ?_ hS ?_
      rotate_left
      ·(intro w' hSw; (try dsimp only at hSw); go_simp; try with_reducible rfl)
      try simp only [Act.put,Sp1,Sp2,Sp3,Sp4,Sp5,Sp6]
      refine AnyG.takeGC (i:=13) (v:=?_) rfl (by kernel_rfl) (fun _ _ _ h => h) (by first | (simp [Region.wanted,yielded]; done) | simp [Region.wanted,yielded,undef]) ?_ hS ?_
      rotate_left
      ·(intro w' hSw; (try dsimp only at hSw); go_simp; try with_reducible rfl)
      try simp only [Act.put,Sp1,Sp2,Sp3,Sp4,Sp5,Sp6]
      refine AnyG.takeGC (i:=14) (v:=?_) rfl (by kernel_rfl) (fun _ _ _ h => h) (by first | (simp [Region.wanted,yielded]; done) | simp [Region.wanted,yielded,undef]) ?_ hS ?_
      rotate_left
      ·(intro w' hSw; (try dsimp only at hSw); have gx2:=cellC (hUr.trans (hSw.mono hUr.size)) gx; go_simp; try with_reducible rfl)
      try simp only [Act.put,Sp1,Sp2,Sp3,Sp4,Sp5,Sp6]
      refine AnyG.takeGC (i:=16) (v:=?_) rfl (by kernel_rfl) (fun _ _ _ h => h) (by first | (simp [Region.wanted,yielded]; done) | simp [Region.wanted,yielded,undef]) ?_ hS ?_
      rotate_left
      ·(intro w' hSw; (try dsimp only at hSw); obtain ⟨l0,l1,l2,l3,lf2,lz⟩:=(kO4.call (hUr.trans (hSw.mono hUr.size))).four; go_simp; try with_reducible rfl)
      try simp only [Act.put,Sp1,Sp2,Sp3,Sp4,Sp5,Sp6]
      refine AnyG.takeGC (i:=17) (v:=?_) rfl (by kernel_rfl) (fun _ _ _ h => h) (by first | (simp [Region.wanted,yielded]; done) | simp [Region.wanted,yielded,undef]) ?_ hS ?_
      rotate_left
      ·(intro w' hSw; (try dsimp only at hSw); go_simp; try with_reducible rfl)
      try simp only [Act.put,Sp1,Sp2,Sp3,Sp4,Sp5,Sp6]
      refine AnyG.oneC (i:=15) (by kernel_rfl) rfl (by first | (simp [Region.wanted,yielded]; done) | simp [Region.wanted,yielded,undef]) ?_
      go_simp
      refine (refCost_any LA ln lc BA bn bc o G bn gc x _ HBN.out (hO4.call (hUr.trans (hS.mono hUr.size))) HOK.out HXL.out (Nat.le_refl _) (gs.call (hUr.trans (hS.mono hUr.size))) H6.out).mono ?_
      rintro e15 y15 ⟨rfl,hb15⟩
      refine Onward.on (hS.trans (hb15.mono hS.size)) (fun hS2 => ?_)
      clear hS
      have hS:=hS2
      clear hS2
      try simp only [Act.put,Sp1,Sp2,Sp3,Sp4,Sp5,Sp6]
      refine AnyG.oneC (i:=18) (by kernel_rfl) rfl (by first | (simp [Region.wanted,yielded]; done) | simp [Region.wanted,yielded,undef]) ?_
      go_simp
      refine (refCost_any LA ln lc BA bn bc o MA bn mc m _ HBN.out (hO4.call (hUr.trans (hS.mono hUr.size))) HOK.out HML.out (Nat.le_refl _) (hms.call hS) HM6.out).mono ?_
      rintro e18 y18 ⟨rfl,hb18⟩
      refine Onward.on (hS.trans (hb18.mono hS.size)) (fun hS2 => ?_)
      clear hS
      have hS:=hS2
      clear hS2
      try simp only [Act.put,Sp1,Sp2,Sp3,Sp4,Sp5,Sp6]
      refine AnyG.takeGC (i:=19) (v:=?_) rfl (by kernel_rfl) (fun _ _ _ h => h) (by first | (simp [Region.wanted,yielded]; done) | simp [Region.wanted,yielded,undef]) ?_ hS ?_
      rotate_left
      ·(intro w' hSw; (try dsimp only at hSw); go_simp; try with_reducible rfl)
      try simp only [Act.put,Sp1,Sp2,Sp3,Sp4,Sp5,Sp6]
      refine AnyG.takeGC (i:=20) (v:=?_) rfl (by kernel_rfl) (fun _ _ _ h => h) (by first | (simp [Region.wanted,yielded]; done) | simp [Region.wanted,yielded,undef]) ?_ hS ?_
      rotate_left
      ·(intro w' hSw; (try dsimp only at hSw); go_simp; try with_reducible rfl)
      try simp only [Act.put,Sp1,Sp2,Sp3,Sp4,Sp5,Sp6]
      refine AnyG.takeC (i:=21) (v:=?_) rfl (by kernel_rfl) (fun _ _ _ h => h) rfl ?_ hS ?_
      rotate_left
      ·(intro w' hSw; (try dsimp only at hSw); go_simp; try with_reducible rfl)
      try simp only [Act.put,Sp1,Sp2,Sp3,Sp4,Sp5,Sp6]
      refine AnyG.done (by kernel_rfl) ?_ _
      have dlt : decide (cst o (lf x) bn < cst o (lf m) bn) = false:=HLT.out
      have hSE : Below wr.heap.size wr _:=hS
      clear hS
      go_simp
      go_wp2_with fail
      go_roundw
      case rel => exact ⟨j + 1,(some m),_,rfl,by go_num,by omega,Lib.hid (by rw [HTK.out]; exact hF.out.dear (by have:=of_decide_eq_false HLT.out; rw [HBN.out]; omega)),rfl,⟨MA,mc,rfl,HML.out,HM6.out,hms.call hSE⟩,hUr.trans (hSE.mono hUr.size)⟩
      case measure => simp [intOf]; omega
     ·have HLT:=Lib.hid hlt
      clear hlt
      go_wp2_with fail
      refine AnyG.startC (by kernel_rfl) ?_
      refine AnyG.takeP (i:=1) (v:=?_) rfl (by kernel_rfl) (fun _ _ _ h => h) rfl ?_ ?_
      rotate_left
      ·(intro w'; go_simp; try with_reducible rfl)
      try simp only [Act.put,Sp1,Sp2,Sp3,Sp4,Sp5,Sp6]
      refine AnyG.takeP (i:=2) (v:=?_) rfl (by kernel_rfl) (fun _ _ _ h => h) rfl ?_ ?_
      rotate_left
      ·(intro w'; go_simp; try with_reducible rfl)
      try simp only [Act.put,Sp1,Sp2,Sp3,Sp4,Sp5,Sp6]
      refine AnyG.takeP (i:=3) (v:=?_) rfl (by kernel_rfl) (fun _ _ _ h => h) rfl ?_ ?_
      rotate_left
      ·(intro w'; go_simp; try with_reducible rfl)
      try simp only [Act.put,Sp1,Sp2,Sp3,Sp4,Sp5,Sp6]
      refine AnyG.enter (fun w' : World => Below wr.heap.size wr w') (fun i => true) ?_
      have hS : (fun w' : World => Below wr.heap.size wr w') (World.drew _):=(Below.refl _ _).drew
      refine AnyG.takeC (i:=0) (v:=?_) rfl (by kernel_rfl) (fun _ _ _ h => h) rfl ?_ hS ?_
      rotate_left
      ·(intro w' hSw; (try dsimp only at hSw); obtain ⟨l0,l1,l2,l3,lf2,lz⟩:=(kO4.call (hUr.trans (hSw.mono hUr.size))).four; go_simp; try with_reducible rfl)
      try simp only [Act.put,Sp1,Sp2,Sp3,Sp4,Sp5,Sp6]
      refine AnyG.takeC (i:=4) (v:=?_) rfl (by kernel_rfl) (fun _ _ _ h => h) rfl ?_ hS ?_
      rotate_left
      ·(intro w' hSw; (try dsimp only at hSw); have gx2:=cellC (hUr.trans (hSw.mono hUr.size)) gx; go_simp; try with_reducible rfl)
      try simp only [Act.put,Sp1,Sp2,Sp3,Sp4,Sp5,Sp6]
      refine AnyG.one (i:=5) (by kernel_rfl) rfl rfl ?_
      go_simp
      refine (refGood_any LA ln lc BA bn bc o G gc x _ HLN.out HBN.out (hO4.call (hUr.trans (hS.mono hUr.size))) HOK.out HXL.out (gs.call (hUr.trans (hS.mono hUr.size))) H6.out).mono ?_
      rintro e5 y5 ⟨rfl,hb5⟩
      rw [HG.out]
      refine Onward.on (hS.trans (hb5.mono hS.size)) (fun hS2 => ?_)
      clear hS
      have hS:=hS2
      clear hS2
      try simp only [Act.put,Sp1,Sp2,Sp3,Sp4,Sp5,Sp6]
      refine AnyG.takeC (i:=6) (v:=?_) rfl (by kernel_rfl) (fun _ _ _ h => h) rfl ?_ hS ?_
      rotate_left
      ·(intro w' hSw; (try dsimp only at hSw); go_simp; try with_reducible rfl)
      try simp only [Act.put,Sp1,Sp2,Sp3,Sp4,Sp5,Sp6]
      refine AnyG.takeGC (i:=7) (v:=?_) rfl (by kernel_rfl) (fun _ _ _ h => h) (by first | (simp [Region.wanted,yielded]; done) | simp [Region.wanted,yielded,undef]) ?_ hS ?_
      rotate_left
      ·(intro w' hSw; (try dsimp only at hSw); go_simp; try with_reducible rfl)
      try simp only [Act.put,Sp1,Sp2,Sp3,Sp4,Sp5,Sp6]
      refine AnyG.takeGC (i:=8) (v:=?_) rfl (by kernel_rfl) (fun _ _ _ h => h) (by first | (simp [Region.wanted,yielded]; done) | simp [Region.wanted,yielded,undef]) ?_ hS ?_
      rotate_left
      ·(intro w' hSw; (try dsimp only at hSw); go_simp; try with_reducible rfl)
      try simp only [Act.put,Sp1,Sp2,Sp3,Sp4,Sp5,Sp6]
      refine AnyG.takeGC (i:=9) (v:=?_) rfl (by kernel_rfl) (fun _ _ _ h => h) (by first | (simp [Region.wanted,yielded]; done) | simp [Region.wanted,yielded,undef]) ?_ hS ?_
      rotate_left
      ·(intro w' hSw; (try dsimp only at hSw); go_simp; try with_reducible rfl)
      try simp only [Act.put,Sp1,Sp2,Sp3,Sp4,Sp5,Sp6]
      refine AnyG.takeGC (i:=10) (v:=?_) rfl (by kernel_rfl) (fun _ _ _ h => h) (by first | (simp [Region.wanted,yielded]; done) | simp [Region.wanted,yielded,undef]) ?_ hS ?_
      rotate_left
      ·(intro w' hSw; (try dsimp only at hSw); obtain ⟨l0,l1,l2,l3,lf2,lz⟩:=(kO4.call (hUr.trans (hSw.mono hUr.size))).four; go_simp; try with_reducible rfl)
      try simp only [Act.put,Sp1,Sp2,Sp3,Sp4,Sp5,Sp6]
      refine AnyG.takeGC (i:=11) (v:=?_) rfl (by kernel_rfl) (fun _ _ _ h => h) (by first | (simp [Region.wanted,yielded]; done) | simp [Region.wanted,yielded,undef]) ?_ hS ?_
      rotate_left
      ·(intro w' hSw; (try dsimp only at hSw); go_simp; try with_reducible rfl)
      try simp only [Act.put,Sp1,Sp2,Sp3,Sp4,Sp5,Sp6]
      refine AnyG.takeGC (i:=12) (v:=?_) rfl (by kernel_rfl) (fun _ _ _ h => h) (by first | (simp [Region.wanted,yielded]; done) | simp [Region.wanted,yielded,undef]) ?_ hS ?_
      rotate_left
      ·(intro w' hSw; (try dsimp only at hSw); go_simp; try with_reducible rfl)
      try simp only [Act.put,Sp1,Sp2,Sp3,Sp4,Sp5,Sp6]
      refine AnyG.takeGC (i:=13) (v:=?_) rfl (by kernel_rfl) (fun _ _ _ h => h) (by first | (simp [Region.wanted,yielded]; done) | simp [Region.wanted,yielded,undef]) ?_ hS ?_
      rotate_left
      ·(intro w' hSw; (try dsimp only at hSw); go_simp; try with_reducible rfl)
      try simp only [Act.put,Sp1,Sp2,Sp3,Sp4,Sp5,Sp6]
      refine AnyG.takeGC (i:=14) (v:=?_) rfl (by kernel_rfl) (fun _ _ _ h => h) (by first | (simp [Region.wanted,yielded]; done) | simp [Region.wanted,yielded,undef]) ?_ hS ?_
      rotate_left
      ·(intro w' hSw; (try dsimp only at hSw); have gx2:=cellC (hUr.trans (hSw.mono hUr.size)) gx; go_simp; try with_reducible rfl)
      try simp only [Act.put,Sp1,Sp2,Sp3,Sp4,Sp5,Sp6]
      refine AnyG.takeGC (i:=16) (v:=?_) rfl (by kernel_rfl) (fun _ _ _ h => h) (by first | (simp [Region.wanted,yielded]; done) | simp [Region.wanted,yielded,undef]) ?_ hS ?_
      rotate_left
      ·(intro w' hSw; (try dsimp only at hSw); obtain ⟨l0,l1,l2,l3,lf2,lz⟩:=(kO4.call (hUr.trans (hSw.mono hUr.size))).four; go_simp; try with_reducible rfl)
      try simp only [Act.put,Sp1,Sp2,Sp3,Sp4,Sp5,Sp6]
      refine AnyG.takeGC (i:=17) (v:=?_) rfl (by kernel_rfl) (fun _ _ _ h => h) (by first | (simp [Region.wanted,yielded]; done) | simp [Region.wanted,yielded,undef]) ?_ hS ?_
      rotate_left
      ·(intro w' hSw; (try dsimp only at hSw); go_simp; try with_reducible rfl)
      try simp only [Act.put,Sp1,Sp2,Sp3,Sp4,Sp5,Sp6]
      refine AnyG.oneC (i:=15) (by kernel_rfl) rfl (by first | (simp [Region.wanted,yielded]; done) | simp [Region.wanted,yielded,undef]) ?_
      go_simp
      refine (refCost_any LA ln lc BA bn bc o G bn gc x _ HBN.out (hO4.call (hUr.trans (hS.mono hUr.size))) HOK.out HXL.out (Nat.le_refl _) (gs.call (hUr.trans (hS.mono hUr.size))) H6.out).mono ?_
      rintro e15 y15 ⟨rfl,hb15⟩
      refine Onward.on (hS.trans (hb15.mono hS.size)) (fun hS2 => ?_)
      clear hS
      have hS:=hS2
      clear hS2
      try simp only [Act.put,Sp1,Sp2,Sp3,Sp4,Sp5,Sp6]
      refine AnyG.oneC (i:=18) (by kernel_rfl) rfl (by first | (simp [Region.wanted,yielded]; done) | simp [Region.wanted,yielded,undef]) ?_
      go_simp
      refine (refCost_any LA ln lc BA bn bc o MA bn mc m _ HBN.out (hO4.call (hUr.trans (hS.mono hUr.size))) HOK.out HML.out (Nat.le_refl _) (hms.call hS) HM6.out).mono ?_
      rintro e18 y18 ⟨rfl,hb18⟩
      refine Onward.on (hS.trans (hb18.mono hS.size)) (fun hS2 => ?_)
      clear hS
      have hS:=hS2
      clear hS2
      try simp only [Act.put,Sp1,Sp2,Sp3,Sp4,Sp5,Sp6]
      refine AnyG.takeGC (i:=19) (v:=?_) rfl (by kernel_rfl) (fun _ _ _ h => h) (by first | (simp [Region.wanted,yielded]; done) | simp [Region.wanted,yielded,undef]) ?_ hS ?_
      rotate_left
      ·(intro w' hSw; (try dsimp only at hSw); go_simp; try with_reducible rfl)
      try simp only [Act.put,Sp1,Sp2,Sp3,Sp4,Sp5,Sp6]
      refine AnyG.takeGC (i:=20) (v:=?_) rfl (by kernel_rfl) (fun _ _ _ h => h) (by first | (simp [Region.wanted,yielded]; done) | simp [Region.wanted,yielded,undef]) ?_ hS ?_
      rotate_left
      ·(intro w' hSw; (try dsimp only at hSw); go_simp; try with_reducible rfl)
      try simp only [Act.put,Sp1,Sp2,Sp3,Sp4,Sp5,Sp6]
      refine AnyG.takeC (i:=21) (v:=?_) rfl (by kernel_rfl) (fun _ _ _ h => h) rfl ?_ hS ?_
      rotate_left
      ·(intro w' hSw; (try dsimp only at hSw); go_simp; try with_reducible rfl)
      try simp only [Act.put,Sp1,Sp2,Sp3,Sp4,Sp5,Sp6]
      refine AnyG.done (by kernel_rfl) ?_ _
      have dlt : decide (cst o (lf x) bn < cst o (lf m) bn) = true:=HLT.out
      have hSE : Below wr.heap.size wr _:=hS
      clear hS
      go_simp
      have gx3:=(cellC (hUr.trans (hSE.mono hUr.size)) gx)
      go_wp2_with fail
      go_roundw
      case rel => exact ⟨j + 1,(some x),_,rfl,by go_num,by omega,Lib.hid (by rw [HTK.out]; exact hF.out.cheaper (of_decide_eq_true HG.out) (by have:=of_decide_eq_true HLT.out; rw [HBN.out]; exact this)),rfl,⟨G,gc,rfl,HXL.out,H6.out,gs.call (hUr.trans (hSE.mono hUr.size))⟩,hUr.trans (hSE.mono hUr.size)⟩
      case measure => simp [intOf]; omega
  ·obtain rfl : j = nn:=by omega
   have hfin : FstMin o all r:=by have:=hF.out; rwa [List.take_of_length_le (by rw [HALL.out.2]; exact Nat.le_refl _)] at this
   have HF:=Lib.hid hfin
   clear hfin
   go_wp2_with fail
   refine bodyPost_ret (v:=.tuple #[_,.bool r.isSome]) (by simp [results,Try.results76,go_sem]) rfl ⟨⟨r,_,by rw [HALL.out.1]; exact HF.out,rfl,hv⟩,hB4.trans (hUr.mono hB4.size)⟩
end Go.Proofs.Ytmemcopfeabcgaa
