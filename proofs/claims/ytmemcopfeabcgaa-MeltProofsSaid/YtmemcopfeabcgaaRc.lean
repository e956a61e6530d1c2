/- The reference of layer 6: checkBin, Check, checkBlend, Weigh, Keeps. -/
import Derived.Test.YtmemcopfeabcgaaRk
set_option linter.unusedSimpArgs false
set_option linter.unusedVariables false
namespace Go.Proofs.Ytmemcopfeabcgaa
open Go Go.RowKit
set_option maxRecDepth 100000 in
set_option maxHeartbeats 4000000 in
theorem refCheckBin_any (LA : Option Addr) (ln lc : Nat) (BA : Option Addr) (bn bc : Nat) (o : Od) (G : Option Addr) (gn gc : Nat) (wt ct gt : Int) (gr : List (Int × Int)) (w : World) (hln : ln ≤ 1000) (hgn : gn ≤ 1000) (hl : gr.length = gn) (hS : Sl w w.heap.size 2 G (gnr gr)) :
  Calls Try.prog 74 #[.agg #[.slice LA ln lc,.int .i64 o.le,.int .i64 o.mo,.slice BA bn bc],.agg #[.slice G gn gc,.int .i64 wt,.int .i64 ct,.int .i64 gt]] w fun e w' => e = .returned (.int .i64 (ckB ln ⟨wt,ct,gt,gr⟩)) ∧ Below w.heap.size w w':=by
 have k1:=(Bx.new w 27 #[.slice LA ln lc,.int .i64 o.le,.int .i64 o.mo,.slice BA bn bc]).alloc (.cells #[.slice G gn gc,.int .i64 wt,.int .i64 ct,.int .i64 gt] 42)
 have k2:=Bx.at (w.alloc (.cells #[.slice LA ln lc,.int .i64 o.le,.int .i64 o.mo,.slice BA bn bc] 27)) 42 #[.slice G gn gc,.int .i64 wt,.int .i64 ct,.int .i64 gt] (n:=w.heap.size + 1) (by simp)
 have B0:=((Below.refl w.heap.size w).alloc (Nat.le_refl _) (.cells #[.slice LA ln lc,.int .i64 o.le,.int .i64 o.mo,.slice BA bn bc] 27)).alloc (by simp) (.cells #[.slice G gn gc,.int .i64 wt,.int .i64 ct,.int .i64 gt] 42)
 obtain ⟨V,hV⟩ : ∃ V,(w.alloc (.cells #[.slice LA ln lc,.int .i64 o.le,.int .i64 o.mo,.slice BA bn bc] 27)).alloc (.cells #[.slice G gn gc,.int .i64 wt,.int .i64 ct,.int .i64 gt] 42) = V:=⟨_,rfl⟩
 have hS1:=hS.call B0
 rw [hV] at k1 k2 B0 hS1
 have HL:=Lib.hid hl
 have HV:=Lib.hid hV
 have HK1:=Lib.hid k1
 have HK2:=Lib.hid k2
 clear hV hl hS k1 k2
 have hBV:=Below.refl V.heap.size V
 obtain ⟨l0,l1,l2,l3,lf',lz⟩:=(HK1.out.call hBV).four
 obtain ⟨m0,m1,m2,m3,mf,mz⟩:=(HK2.out.call hBV).four
 by_cases hgl : gn = ln
 ·subst hgl
  have ev : ckB gn ⟨wt,ct,gt,gr⟩ = (if ckGs gr ≠ 0 then ckGs gr else if wt < 1 ∨ 10000 < wt ∨ ct < 0 ∨ 10000000 < ct ∨ gt < 0 ∨ 6 < gt then 1 else 0):=by unfold ckB; rw [if_neg (by dsimp only; rw [HL.out]; exact fun h => h rfl)]
  have HEV:=Lib.hid ev
  clear ev
  go_enter Try.func74,Try.ntmps74
  go_upto_region 1 with fail
  rw [HV.out]
  go_wp2_with fail
  clear l0 l1 l2 l3 lf' lz m0 m1 m2 m3 mf mz hBV
  go_loopw [5] (fun v wr => ∃ (j : Nat),v = .int .i64 j ∧ j ≤ gn ∧ Hid (ckGs gr = ckGs (gr.drop j)) ∧ Below V.heap.size V wr) (fun v _ => gn - (intOf v).toNat)
  case atStart => exact ⟨0,rfl,by omega,Lib.hid (by simp),Below.refl _ _⟩
  case round =>
   obtain ⟨j,rfl,hj,hh,hBV⟩:=hrel
   obtain ⟨l0,l1,l2,l3,lf',lz⟩:=(HK1.out.call hBV).four
   obtain ⟨m0,m1,m2,m3,mf,mz⟩:=(HK2.out.call hBV).four
   by_cases hjn : j < gn
   ·have hjl : j < gr.length:=by rw [HL.out]; exact hjn
    have hjw : IntKind.i64.wrap ((j : Int) + 1) = (j : Int) + 1:=IntWalk.i64_in _ (by omega)
    obtain ⟨ga,rfl,hga,g0,g1⟩:=gnr_at hS1 hjl
    have hst:=ckGs_step hjl
    obtain ⟨⟨a,b⟩,hab⟩ : ∃ p,gr[j] = p:=⟨_,rfl⟩
    rw [hab] at g0 g1 hst
    dsimp only at g0 g1 hst
    have HG0:=Lib.hid g0
    have HG1:=Lib.hid g1
    have HST:=Lib.hid hst
    have g0x:=cellC hBV g0
    have g1x:=cellC hBV g1
    clear hst hab g0 g1
    cases hda : decide (0 ≤ a ∧ a ≤ 1000000) with
    | false =>
     have HA:=Lib.hid hda
     have hz : ckGs gr = 1:=by
      have:=of_decide_eq_false hda
      rw [hh.out,HST.out,show ckR a b 0 1000000 = 1 by unfold ckR; rw [if_pos (by omega)]]; simp
     have HZ:=Lib.hid hz
     clear hda hz
     go_wp2_with (first | (go_at_call 65; refine (from65_any _ _ _ _).mono ?_; rintro e xw ⟨rfl,hx⟩; (first | rw [HA.out]); replace hBV:=hBV.trans (hx.mono hBV.size); clear l0 l1 l2 l3 lf' lz m0 m1 m2 m3 mf mz g0x g1x; obtain ⟨l0,l1,l2,l3,lf',lz⟩:=(HK1.out.call hBV).four; obtain ⟨m0,m1,m2,m3,mf,mz⟩:=(HK2.out.call hBV).four; have g0x:=cellC hBV HG0.out; have g1x:=cellC hBV HG1.out) | fail)
     go_ret
     rw [HEV.out,HZ.out]
     exact ⟨by simp,B0.trans (hBV.mono B0.size)⟩
    | true =>
     have HA:=Lib.hid hda
     cases hdb : decide (0 ≤ b ∧ b ≤ 1000000) with
     | false =>
      have HBD:=Lib.hid hdb
      have hz : ckGs gr = 1:=by
       have:=of_decide_eq_false hdb
       rw [hh.out,HST.out,show ckR a b 0 1000000 = 1 by unfold ckR; rw [if_pos (by omega)]]; simp
      have HZ:=Lib.hid hz
      clear hda hdb hz
      go_wp2_with (first | (go_at_call 65; refine (from65_any _ _ _ _).mono ?_; rintro e xw ⟨rfl,hx⟩; (first | rw [HA.out] | rw [HBD.out]); replace hBV:=hBV.trans (hx.mono hBV.size); clear l0 l1 l2 l3 lf' lz m0 m1 m2 m3 mf mz g0x g1x; obtain ⟨l0,l1,l2,l3,lf',lz⟩:=(HK1.out.call hBV).four; obtain ⟨m0,m1,m2,m3,mf,mz⟩:=(HK2.out.call hBV).four; have g0x:=cellC hBV HG0.out; have g1x:=cellC hBV HG1.out) | fail)
      go_ret
      rw [HEV.out,HZ.out]
      exact ⟨by simp,B0.trans (hBV.mono B0.size)⟩
     | true =>
      have HBD:=Lib.hid hdb
      have q1:=of_decide_eq_true hda
      have q2:=of_decide_eq_true hdb
      clear hda hdb
      by_cases hba : b < a
      ·have d : decide (b < a) = true:=decide_eq_true hba
       have hz : ckGs gr = 5:=by
        rw [hh.out,HST.out,show ckR a b 0 1000000 = 5 by unfold ckR; rw [if_neg (by omega),if_pos hba]]; simp
       have HZ:=Lib.hid hz
       clear hba hz q1 q2
       go_wp2_with (first | (go_at_call 65; refine (from65_any _ _ _ _).mono ?_; rintro e xw ⟨rfl,hx⟩; (first | rw [HA.out] | rw [HBD.out]); replace hBV:=hBV.trans (hx.mono hBV.size); clear l0 l1 l2 l3 lf' lz m0 m1 m2 m3 mf mz g0x g1x; obtain ⟨l0,l1,l2,l3,lf',lz⟩:=(HK1.out.call hBV).four; obtain ⟨m0,m1,m2,m3,mf,mz⟩:=(HK2.out.call hBV).four; have g0x:=cellC hBV HG0.out; have g1x:=cellC hBV HG1.out) | fail)
       clear l0 l1 l2 l3 lf' lz m0 m1 m2 m3 mf mz g0x g1x
       refine AnyG.startC (by kernel_rfl) ?_
       refine AnyG.takeP (i:=0) (v:=?_) rfl (by kernel_rfl) (fun _ _ _ h => h) rfl ?_ ?_
       rotate_left
       ·(intro w'; go_simp; try with_reducible rfl)
       try simp only [Act.put,Sp1,Sp2,Sp3,Sp4,Sp5,Sp6]
       refine AnyG.takeP (i:=2) (v:=?_) rfl (by kernel_rfl) (fun _ _ _ h => h) rfl ?_ ?_
       rotate_left
       ·(intro w'; go_simp; try with_reducible rfl)
       try simp only [Act.put,Sp1,Sp2,Sp3,Sp4,Sp5,Sp6]
       refine AnyG.takeP (i:=6) (v:=?_) rfl (by kernel_rfl) (fun _ _ _ h => h) rfl ?_ ?_
       rotate_left
       ·(intro w'; go_simp; try with_reducible rfl)
       try simp only [Act.put,Sp1,Sp2,Sp3,Sp4,Sp5,Sp6]
       refine AnyG.takeP (i:=8) (v:=?_) rfl (by kernel_rfl) (fun _ _ _ h => h) rfl ?_ ?_
       rotate_left
       ·(intro w'; go_simp; try with_reducible rfl)
       try simp only [Act.put,Sp1,Sp2,Sp3,Sp4,Sp5,Sp6]
       refine AnyG.enter (fun w' : World => Below V.heap.size V w') (fun i => true) ?_
       have hS : (fun w' : World => Below V.heap.size V w') (World.drew _):=hBV.drew
       refine AnyG.takeC (i:=1) (v:=?_) rfl (by kernel_rfl) (fun _ _ _ h => h) rfl ?_ hS ?_
       rotate_left
       ·(intro w' hSw; (try dsimp only at hSw); obtain ⟨m0,m1,m2,m3,mf,mz⟩:=(HK2.out.call hSw).four; go_simp; try with_reducible rfl)
       try simp only [Act.put,Sp1,Sp2,Sp3,Sp4,Sp5,Sp6]
       refine AnyG.takeC (i:=3) (v:=?_) rfl (by kernel_rfl) (fun _ _ _ h => h) rfl ?_ hS ?_
       rotate_left
       ·(intro w' hSw; (try dsimp only at hSw); go_simp; try with_reducible rfl)
       try simp only [Act.put,Sp1,Sp2,Sp3,Sp4,Sp5,Sp6]
       refine AnyG.takeC (i:=4) (v:=?_) rfl (by kernel_rfl) (fun _ _ _ h => h) rfl ?_ hS ?_
       rotate_left
       ·(intro w' hSw; (try dsimp only at hSw); go_simp; try with_reducible rfl)
       try simp only [Act.put,Sp1,Sp2,Sp3,Sp4,Sp5,Sp6]
       refine AnyG.takeC (i:=5) (v:=?_) rfl (by kernel_rfl) (fun _ _ _ h => h) rfl ?_ hS ?_
       rotate_left
       ·(intro w' hSw; (try dsimp only at hSw); have q:=cellC hSw HG0.out; go_simp; try with_reducible rfl)
       try simp only [Act.put,Sp1,Sp2,Sp3,Sp4,Sp5,Sp6]
       refine AnyG.takeC (i:=7) (v:=?_) rfl (by kernel_rfl) (fun _ _ _ h => h) rfl ?_ hS ?_
       rotate_left
       ·(intro w' hSw; (try dsimp only at hSw); obtain ⟨m0,m1,m2,m3,mf,mz⟩:=(HK2.out.call hSw).four; go_simp; try with_reducible rfl)
       try simp only [Act.put,Sp1,Sp2,Sp3,Sp4,Sp5,Sp6]
       refine AnyG.takeC (i:=9) (v:=?_) rfl (by kernel_rfl) (fun _ _ _ h => h) rfl ?_ hS ?_
       rotate_left
       ·(intro w' hSw; (try dsimp only at hSw); go_simp; try with_reducible rfl)
       try simp only [Act.put,Sp1,Sp2,Sp3,Sp4,Sp5,Sp6]
       refine AnyG.takeC (i:=10) (v:=?_) rfl (by kernel_rfl) (fun _ _ _ h => h) rfl ?_ hS ?_
       rotate_left
       ·(intro w' hSw; (try dsimp only at hSw); go_simp; try with_reducible rfl)
       try simp only [Act.put,Sp1,Sp2,Sp3,Sp4,Sp5,Sp6]
       refine AnyG.takeC (i:=11) (v:=?_) rfl (by kernel_rfl) (fun _ _ _ h => h) rfl ?_ hS ?_
       rotate_left
       ·(intro w' hSw; (try dsimp only at hSw); have q:=cellC hSw HG1.out; go_simp; try with_reducible rfl)
       try simp only [Act.put,Sp1,Sp2,Sp3,Sp4,Sp5,Sp6]
       refine AnyG.takeC (i:=12) (v:=?_) rfl (by kernel_rfl) (fun _ _ _ h => h) rfl ?_ hS ?_
       rotate_left
       ·(intro w' hSw; (try dsimp only at hSw); go_simp; try with_reducible rfl)
       try simp only [Act.put,Sp1,Sp2,Sp3,Sp4,Sp5,Sp6]
       refine AnyG.done (by kernel_rfl) ?_ _
       go_simp
       go_wp2_with fail
       go_ret
       rw [HEV.out,HZ.out]
       exact ⟨by simp,B0.trans (hBV.drew.mono B0.size)⟩
      ·have d : decide (b < a) = false:=decide_eq_false hba
       have hz : ckGs gr = ckGs (gr.drop (j + 1)):=by
        rw [hh.out,HST.out,show ckR a b 0 1000000 = 0 by unfold ckR; rw [if_neg (by omega),if_neg hba]]; simp
       have HZ:=Lib.hid hz
       clear hba hz q1 q2
       go_wp2_with (first | (go_at_call 65; refine (from65_any _ _ _ _).mono ?_; rintro e xw ⟨rfl,hx⟩; (first | rw [HA.out] | rw [HBD.out]); replace hBV:=hBV.trans (hx.mono hBV.size); clear l0 l1 l2 l3 lf' lz m0 m1 m2 m3 mf mz g0x g1x; obtain ⟨l0,l1,l2,l3,lf',lz⟩:=(HK1.out.call hBV).four; obtain ⟨m0,m1,m2,m3,mf,mz⟩:=(HK2.out.call hBV).four; have g0x:=cellC hBV HG0.out; have g1x:=cellC hBV HG1.out) | fail)
       clear l0 l1 l2 l3 lf' lz m0 m1 m2 m3 mf mz g0x g1x
       refine AnyG.startC (by kernel_rfl) ?_
       refine AnyG.takeP (i:=0) (v:=?_) rfl (by kernel_rfl) (fun _ _ _ h => h) rfl ?_ ?_
       rotate_left
       ·(intro w'; go_simp; try with_reducible rfl)
       try simp only [Act.put,Sp1,Sp2,Sp3,Sp4,Sp5,Sp6]
       refine AnyG.takeP (i:=2) (v:=?_) rfl (by kernel_rfl) (fun _ _ _ h => h) rfl ?_ ?_
       rotate_left
       ·(intro w'; go_simp; try with_reducible rfl)
       try simp only [Act.put,Sp1,Sp2,Sp3,Sp4,Sp5,Sp6]
       refine AnyG.takeP (i:=6) (v:=?_) rfl (by kernel_rfl) (fun _ _ _ h => h) rfl ?_ ?_
       rotate_left
       ·(intro w'; go_simp; try with_reducible rfl)
       try simp only [Act.put,Sp1,Sp2,Sp3,Sp4,Sp5,Sp6]
       refine AnyG.takeP (i:=8) (v:=?_) rfl (by kernel_rfl) (fun _ _ _ h => h) rfl ?_ ?_
       rotate_left
       ·(intro w'; go_simp; try with_reducible rfl)
       try simp only [Act.put,Sp1,Sp2,Sp3,Sp4,Sp5,Sp6]
       refine AnyG.enter (fun w' : World => Below V.heap.size V w') (fun i => true) ?_
       have hS : (fun w' : World => Below V.heap.size V w') (World.drew _):=hBV.drew
       refine AnyG.takeC (i:=1) (v:=?_) rfl (by kernel_rfl) (fun _ _ _ h => h) rfl ?_ hS ?_
       rotate_left
       ·(intro w' hSw; (try dsimp only at hSw); obtain ⟨m0,m1,m2,m3,mf,mz⟩:=(HK2.out.call hSw).four; go_simp; try with_reducible rfl)
       try simp only [Act.put,Sp1,Sp2,Sp3,Sp4,Sp5,Sp6]
       refine AnyG.takeC (i:=3) (v:=?_) rfl (by kernel_rfl) (fun _ _ _ h => h) rfl ?_ hS ?_
       rotate_left
       ·(intro w' hSw; (try dsimp only at hSw); go_simp; try with_reducible rfl)
       try simp only [Act.put,Sp1,Sp2,Sp3,Sp4,Sp5,Sp6]
       refine AnyG.takeC (i:=4) (v:=?_) rfl (by kernel_rfl) (fun _ _ _ h => h) rfl ?_ hS ?_
       rotate_left
       ·(intro w' hSw; (try dsimp only at hSw); go_simp; try with_reducible rfl)
       try simp only [Act.put,Sp1,Sp2,Sp3,Sp4,Sp5,Sp6]
       refine AnyG.takeC (i:=5) (v:=?_) rfl (by kernel_rfl) (fun _ _ _ h => h) rfl ?_ hS ?_
       rotate_left
       ·(intro w' hSw; (try dsimp only at hSw); have q:=cellC hSw HG0.out; go_simp; try with_reducible rfl)
       try simp only [Act.put,Sp1,Sp2,Sp3,Sp4,Sp5,Sp6]
       refine AnyG.takeC (i:=7) (v:=?_) rfl (by kernel_rfl) (fun _ _ _ h => h) rfl ?_ hS ?_
       rotate_left
       ·(intro w' hSw; (try dsimp only at hSw); obtain ⟨m0,m1,m2,m3,mf,mz⟩:=(HK2.out.call hSw).four; go_simp; try with_reducible rfl)
       try simp only [Act.put,Sp1,Sp2,Sp3,Sp4,Sp5,Sp6]
       refine AnyG.takeC (i:=9) (v:=?_) rfl (by kernel_rfl) (fun _ _ _ h => h) rfl ?_ hS ?_
       rotate_left
       ·(intro w' hSw; (try dsimp only at hSw); go_simp; try with_reducible rfl)
       try simp only [Act.put,Sp1,Sp2,Sp3,Sp4,Sp5,Sp6]
       refine AnyG.takeC (i:=10) (v:=?_) rfl (by kernel_rfl) (fun _ _ _ h => h) rfl ?_ hS ?_
       rotate_left
       ·(intro w' hSw; (try dsimp only at hSw); go_simp; try with_reducible rfl)
       try simp only [Act.put,Sp1,Sp2,Sp3,Sp4,Sp5,Sp6]
       refine AnyG.takeC (i:=11) (v:=?_) rfl (by kernel_rfl) (fun _ _ _ h => h) rfl ?_ hS ?_
       rotate_left
       ·(intro w' hSw; (try dsimp only at hSw); have q:=cellC hSw HG1.out; go_simp; try with_reducible rfl)
       try simp only [Act.put,Sp1,Sp2,Sp3,Sp4,Sp5,Sp6]
       refine AnyG.takeC (i:=12) (v:=?_) rfl (by kernel_rfl) (fun _ _ _ h => h) rfl ?_ hS ?_
       rotate_left
       ·(intro w' hSw; (try dsimp only at hSw); go_simp; try with_reducible rfl)
       try simp only [Act.put,Sp1,Sp2,Sp3,Sp4,Sp5,Sp6]
       refine AnyG.done (by kernel_rfl) ?_ _
       go_simp
       go_wp2_with fail
       go_roundw
       case rel => exact ⟨j + 1,by go_num,by omega,HZ,hBV.drew⟩
       case measure => simp [intOf]; omega
   ·obtain rfl : j = gn:=by omega
    have hz : ckGs gr = 0:=by rw [hh.out,List.drop_of_length_le (by rw [HL.out]; exact Nat.le_refl _)]; rfl
    have hev:=HEV.out
    rw [hz] at hev
    simp only [ne_eq,not_true_eq_false,if_false] at hev
    have HE2:=Lib.hid hev
    clear hz hev HEV
    cases hdw : decide (1 ≤ wt ∧ wt ≤ 10000) with
    | false =>
     have HW:=Lib.hid hdw
     have hz : (wt < 1 ∨ 10000 < wt ∨ ct < 0 ∨ 10000000 < ct ∨ gt < 0 ∨ 6 < gt):=by have:=of_decide_eq_false hdw; omega
     have HZ:=Lib.hid hz
     clear hdw hz
     go_wp2_with (first | (go_at_call 65; refine (from65_any _ _ _ _).mono ?_; rintro e xw ⟨rfl,hx⟩; (first | rw [HW.out]); replace hBV:=hBV.trans (hx.mono hBV.size); clear l0 l1 l2 l3 lf' lz m0 m1 m2 m3 mf mz; obtain ⟨l0,l1,l2,l3,lf',lz⟩:=(HK1.out.call hBV).four; obtain ⟨m0,m1,m2,m3,mf,mz⟩:=(HK2.out.call hBV).four) | fail)
     go_ret
     rw [HE2.out,if_pos HZ.out]
     exact ⟨rfl,B0.trans (hBV.mono B0.size)⟩
    | true =>
     have HW:=Lib.hid hdw
     cases hdc : decide (0 ≤ ct ∧ ct ≤ 10000000) with
     | false =>
      have HC:=Lib.hid hdc
      have hz : (wt < 1 ∨ 10000 < wt ∨ ct < 0 ∨ 10000000 < ct ∨ gt < 0 ∨ 6 < gt):=by have:=of_decide_eq_false hdc; omega
      have HZ:=Lib.hid hz
      clear hdw hdc hz
      go_wp2_with (first | (go_at_call 65; refine (from65_any _ _ _ _).mono ?_; rintro e xw ⟨rfl,hx⟩; (first | rw [HW.out] | rw [HC.out]); replace hBV:=hBV.trans (hx.mono hBV.size); clear l0 l1 l2 l3 lf' lz m0 m1 m2 m3 mf mz; obtain ⟨l0,l1,l2,l3,lf',lz⟩:=(HK1.out.call hBV).four; obtain ⟨m0,m1,m2,m3,mf,mz⟩:=(HK2.out.call hBV).four) | fail)
      go_ret
      rw [HE2.out,if_pos HZ.out]
      exact ⟨rfl,B0.trans (hBV.mono B0.size)⟩
     | true =>
      have HC:=Lib.hid hdc
      cases hdg : decide (0 ≤ gt ∧ gt ≤ 6) with
      | false =>
       have HG:=Lib.hid hdg
       have hz : (wt < 1 ∨ 10000 < wt ∨ ct < 0 ∨ 10000000 < ct ∨ gt < 0 ∨ 6 < gt):=by have:=of_decide_eq_false hdg; omega
       have HZ:=Lib.hid hz
       clear hdw hdc hdg hz
       go_wp2_with (first | (go_at_call 65; refine (from65_any _ _ _ _).mono ?_; rintro e xw ⟨rfl,hx⟩; (first | rw [HW.out] | rw [HC.out] | rw [HG.out]); replace hBV:=hBV.trans (hx.mono hBV.size); clear l0 l1 l2 l3 lf' lz m0 m1 m2 m3 mf mz; obtain ⟨l0,l1,l2,l3,lf',lz⟩:=(HK1.out.call hBV).four; obtain ⟨m0,m1,m2,m3,mf,mz⟩:=(HK2.out.call hBV).four) | fail)
       go_ret
       rw [HE2.out,if_pos HZ.out]
       exact ⟨rfl,B0.trans (hBV.mono B0.size)⟩
      | true =>
       have HG:=Lib.hid hdg
       have hz : ¬ (wt < 1 ∨ 10000 < wt ∨ ct < 0 ∨ 10000000 < ct ∨ gt < 0 ∨ 6 < gt):=by have:=of_decide_eq_true hdw; have:=of_decide_eq_true hdc; have:=of_decide_eq_true hdg; omega
       have HZ:=Lib.hid hz
       clear hdw hdc hdg hz
       go_wp2_with (first | (go_at_call 65; refine (from65_any _ _ _ _).mono ?_; rintro e xw ⟨rfl,hx⟩; (first | rw [HW.out] | rw [HC.out] | rw [HG.out]); replace hBV:=hBV.trans (hx.mono hBV.size); clear l0 l1 l2 l3 lf' lz m0 m1 m2 m3 mf mz; obtain ⟨l0,l1,l2,l3,lf',lz⟩:=(HK1.out.call hBV).four; obtain ⟨m0,m1,m2,m3,mf,mz⟩:=(HK2.out.call hBV).four) | fail)
       go_ret
       rw [HE2.out,if_neg HZ.out]
       exact ⟨rfl,B0.trans (hBV.mono B0.size)⟩
 ·have d : ((gn : Int) == (ln : Int)) = false:=by simp; omega
  have ev : ckB ln ⟨wt,ct,gt,gr⟩ = 2:=by unfold ckB; rw [if_pos (by dsimp only; rw [HL.out]; exact hgl)]
  have HEV:=Lib.hid ev
  clear hgl ev
  go_enter Try.func74,Try.ntmps74
  go_upto_region 1 with fail
  rw [HV.out]
  go_wp2_with fail
  go_ret
  rw [HEV.out]
  exact ⟨rfl,B0⟩
set_option maxRecDepth 100000 in
set_option maxHeartbeats 8000000 in
theorem refCheck_any (LA : Option Addr) (ln lc : Nat) (BA : Option Addr) (bn bc : Nat) (o : Od) (w : World) (hln : ln ≤ 1000) (hbn : bn ≤ 1000) (hl : o.lm.length = ln) (hb' : o.bs.length = bn) (hA : OrdAt w w.heap.size LA BA o) (hG : ∀ b ∈ o.bs,b.gr.length ≤ 1000) :
  Calls Try.prog 38 #[.agg #[.slice LA ln lc,.int .i64 o.le,.int .i64 o.mo,.slice BA bn bc]] w fun e w' => e = .returned (.int .i64 (ckO o)) ∧ Below w.heap.size w w':=by
 have k1:=Bx.new w 27 #[.slice LA ln lc,.int .i64 o.le,.int .i64 o.mo,.slice BA bn bc]
 have B0:=(Below.refl w.heap.size w).alloc (Nat.le_refl _) (.cells #[.slice LA ln lc,.int .i64 o.le,.int .i64 o.mo,.slice BA bn bc] 27)
 obtain ⟨V,hV⟩ : ∃ V,w.alloc (.cells #[.slice LA ln lc,.int .i64 o.le,.int .i64 o.mo,.slice BA bn bc] 27) = V:=⟨_,rfl⟩
 have hA1:=hA.call B0
 rw [hV] at k1 B0 hA1
 have HB:=Lib.hid hb'
 have HL:=Lib.hid hl
 have HV:=Lib.hid hV
 have HK1:=Lib.hid k1
 have HGG:=Lib.hid hG
 obtain ⟨le,hle⟩ : ∃ x,o.le = x:=⟨_,rfl⟩
 obtain ⟨mo,hmo⟩ : ∃ x,o.mo = x:=⟨_,rfl⟩
 rw [hle,hmo] at HK1 ⊢
 rw [hle,hmo] at HV
 have HLM:=Lib.hid (And.intro hle hmo)
 have ev : ckO o = (if 3 < ln then 6 else if ckLs o.lm ≠ 0 then ckLs o.lm else if ckR le mo 0 240000 ≠ 0 then ckR le mo 0 240000 else if bn < 1 then 7 else if 4 < bn then 6 else ckBs ln o.bs):=by unfold ckO; rw [hl,hb',hle,hmo]
 have HEV:=Lib.hid ev
 clear hV hl hb' hA hG k1 ev hle hmo
 have hBV:=Below.refl V.heap.size V
 obtain ⟨l0,l1,l2,l3,lf',lz⟩:=(HK1.out.call hBV).four
 by_cases h3 : 3 < ln
 ·have d : decide ((3 : Int) < (ln : Int)) = true:=by simp; omega
  have HH:=Lib.hid h3
  clear h3
  go_enter Try.func38,Try.ntmps38
  go_upto_region 1 with fail
  rw [HV.out]
  go_wp2_with fail
  go_ret
  rw [HEV.out,if_pos HH.out]
  exact ⟨rfl,B0⟩
 ·have d : decide ((3 : Int) < (ln : Int)) = false:=by simp; omega
  have ev:=HEV.out
  rw [if_neg h3] at ev
  have HEV:=Lib.hid ev
  clear h3 ev
  go_enter Try.func38,Try.ntmps38
  go_upto_region 1 with fail
  rw [HV.out]
  go_wp2_with fail
  clear l0 l1 l2 l3 lf' lz hBV d
  go_loopw [3] (fun v wr => ∃ (j : Nat),v = .int .i64 j ∧ j ≤ ln ∧ Hid (ckLs o.lm = ckLs (o.lm.drop j)) ∧ Below V.heap.size V wr) (fun v _ => ln - (intOf v).toNat)
  case atStart => exact ⟨0,rfl,by omega,Lib.hid (by simp),Below.refl _ _⟩
  case round =>
   obtain ⟨j,rfl,hj,hh,hBV⟩:=hrel
   obtain ⟨l0,l1,l2,l3,lf',lz⟩:=(HK1.out.call hBV).four
   by_cases hjn : j < ln
   ·have hjl : j < o.lm.length:=by rw [HL.out]; exact hjn
    have hjw : IntKind.i64.wrap ((j : Int) + 1) = (j : Int) + 1:=IntWalk.i64_in _ (by omega)
    obtain ⟨la,rfl,hla,g0⟩:=inr_at hA1.lm hjl
    have hst:=ckLs_step hjl
    obtain ⟨a,hab⟩ : ∃ p,o.lm[j] = p:=⟨_,rfl⟩
    rw [hab] at g0 hst
    have g0x:=cellC hBV g0
    have HST:=Lib.hid hst
    clear hst hab
    cases hda : decide (0 ≤ a ∧ a ≤ 1000000) with
    | false =>
     have HA:=Lib.hid hda
     have hz : ckLs o.lm = 1:=by
      have:=of_decide_eq_false hda
      rw [hh.out,HST.out,if_pos (by omega)]
     have HZ:=Lib.hid hz
     clear hda hz
     go_wp2_with (first | (go_at_call 65; refine (from65_any _ _ _ _).mono ?_; rintro e xw ⟨rfl,hx⟩; (first | rw [HA.out]); replace hBV:=hBV.trans (hx.mono hBV.size); clear l0 l1 l2 l3 lf' lz g0x; obtain ⟨l0,l1,l2,l3,lf',lz⟩:=(HK1.out.call hBV).four; have g0x:=cellC hBV g0) | fail)
     go_ret
     rw [HEV.out,HZ.out]
     exact ⟨by simp,B0.trans (hBV.mono B0.size)⟩
    | true =>
     have HA:=Lib.hid hda
     have hz : ckLs o.lm = ckLs (o.lm.drop (j + 1)):=by
      have:=of_decide_eq_true hda
      rw [hh.out,HST.out,if_neg (by omega)]
     have HZ:=Lib.hid hz
     clear hda hz
     go_wp2_with (first | (go_at_call 65; refine (from65_any _ _ _ _).mono ?_; rintro e xw ⟨rfl,hx⟩; (first | rw [HA.out]); replace hBV:=hBV.trans (hx.mono hBV.size); clear l0 l1 l2 l3 lf' lz g0x; obtain ⟨l0,l1,l2,l3,lf',lz⟩:=(HK1.out.call hBV).four; have g0x:=cellC hBV g0) | fail)
     go_roundw
     case rel => exact ⟨j + 1,by go_num,by omega,HZ,hBV⟩
     case measure => simp [intOf]; omega
   ·obtain rfl : j = ln:=by omega
    have hz : ckLs o.lm = 0:=by rw [hh.out,List.drop_of_length_le (by rw [HL.out]; exact Nat.le_refl _)]; rfl
    have hev:=HEV.out
    rw [hz] at hev
    simp only [ne_eq,not_true_eq_false,if_false] at hev
    have HE2:=Lib.hid hev
    clear hz hev HEV hh
    cases hda : decide (0 ≤ le ∧ le ≤ 240000) with
    | false =>
     have HA:=Lib.hid hda
     have hz : ckR le mo 0 240000 = 1:=by have:=of_decide_eq_false hda; unfold ckR; rw [if_pos (by omega)]
     have HZ:=Lib.hid hz
     clear hda hz
     go_wp2_with (first | (go_at_call 65; refine (from65_any _ _ _ _).mono ?_; rintro e xw ⟨rfl,hx⟩; (first | rw [HA.out]); replace hBV:=hBV.trans (hx.mono hBV.size); clear l0 l1 l2 l3 lf' lz; obtain ⟨l0,l1,l2,l3,lf',lz⟩:=(HK1.out.call hBV).four) | fail)
     go_ret
     rw [HE2.out,HZ.out]
     exact ⟨by simp,B0.trans (hBV.mono B0.size)⟩
    | true =>
     have HA:=Lib.hid hda
     cases hdb : decide (0 ≤ mo ∧ mo ≤ 240000) with
     | false =>
      have HBD:=Lib.hid hdb
      have hz : ckR le mo 0 240000 = 1:=by have:=of_decide_eq_false hdb; unfold ckR; rw [if_pos (by omega)]
      have HZ:=Lib.hid hz
      clear hda hdb hz
      go_wp2_with (first | (go_at_call 65; refine (from65_any _ _ _ _).mono ?_; rintro e xw ⟨rfl,hx⟩; (first | rw [HA.out] | rw [HBD.out]); replace hBV:=hBV.trans (hx.mono hBV.size); clear l0 l1 l2 l3 lf' lz; obtain ⟨l0,l1,l2,l3,lf',lz⟩:=(HK1.out.call hBV).four) | fail)
      go_ret
      rw [HE2.out,HZ.out]
      exact ⟨by simp,B0.trans (hBV.mono B0.size)⟩
     | true =>
      have HBD:=Lib.hid hdb
      have q1:=of_decide_eq_true hda
      have q2:=of_decide_eq_true hdb
      clear hda hdb
      by_cases hlm : mo < le
      ·have d : decide (mo < le) = true:=decide_eq_true hlm
       have hz : ckR le mo 0 240000 = 5:=by unfold ckR; rw [if_neg (by omega),if_pos hlm]
       have HZ:=Lib.hid hz
       clear hz hlm q1 q2
       go_wp2_with (first | (go_at_call 65; refine (from65_any _ _ _ _).mono ?_; rintro e xw ⟨rfl,hx⟩; (first | rw [HA.out] | rw [HBD.out]); replace hBV:=hBV.trans (hx.mono hBV.size); clear l0 l1 l2 l3 lf' lz; obtain ⟨l0,l1,l2,l3,lf',lz⟩:=(HK1.out.call hBV).four) | fail)
       go_ret
       rw [HE2.out,HZ.out]
       exact ⟨by simp,B0.trans (hBV.mono B0.size)⟩
      ·have d : decide (mo < le) = false:=decide_eq_false hlm
       have hz : ckR le mo 0 240000 = 0:=by unfold ckR; rw [if_neg (by omega),if_neg hlm]
       have hev:=HE2.out
       rw [hz] at hev
       simp only [ne_eq,not_true_eq_false,if_false] at hev
       have HE3:=Lib.hid hev
       clear hz hlm q1 q2 hev HE2
       by_cases h0 : bn = 0
       ·subst h0
        go_wp2_with (first | (go_at_call 65; refine (from65_any _ _ _ _).mono ?_; rintro e xw ⟨rfl,hx⟩; (first | rw [HA.out] | rw [HBD.out]); replace hBV:=hBV.trans (hx.mono hBV.size); clear l0 l1 l2 l3 lf' lz; obtain ⟨l0,l1,l2,l3,lf',lz⟩:=(HK1.out.call hBV).four) | fail)
        go_ret
        rw [HE3.out]
        exact ⟨by simp,B0.trans (hBV.mono B0.size)⟩
       ·have d0 : ((bn : Int) == 0) = false:=by simp; exact h0
        by_cases h4 : 4 < bn
        ·have d4 : decide ((4 : Int) < (bn : Int)) = true:=by simp; omega
         have HH:=Lib.hid (And.intro h0 h4)
         clear h0 h4
         go_wp2_with (first | (go_at_call 65; refine (from65_any _ _ _ _).mono ?_; rintro e xw ⟨rfl,hx⟩; (first | rw [HA.out] | rw [HBD.out]); replace hBV:=hBV.trans (hx.mono hBV.size); clear l0 l1 l2 l3 lf' lz; obtain ⟨l0,l1,l2,l3,lf',lz⟩:=(HK1.out.call hBV).four) | fail)
         go_ret
         rw [HE3.out,if_neg (by have:=HH.out.1; omega),if_pos HH.out.2]
         exact ⟨rfl,B0.trans (hBV.mono B0.size)⟩
        ·have d4 : decide ((4 : Int) < (bn : Int)) = false:=by simp; omega
         have hev:=HE3.out
         rw [if_neg (by omega),if_neg h4] at hev
         have HE4:=Lib.hid hev
         clear h0 h4 hev HE3
         go_wp2_with (first | (go_at_call 65; refine (from65_any _ _ _ _).mono ?_; rintro e xw ⟨rfl,hx⟩; (first | rw [HA.out] | rw [HBD.out]); replace hBV:=hBV.trans (hx.mono hBV.size); clear l0 l1 l2 l3 lf' lz; obtain ⟨l0,l1,l2,l3,lf',lz⟩:=(HK1.out.call hBV).four) | fail)
         clear l0 l1 l2 l3 lf' lz
         obtain ⟨U,hU⟩ : ∃ U,Below V.heap.size V U:=⟨_,hBV⟩
         clear hU U
         go_loopw [4,5] (fun v _ wr => ∃ (i : Nat),v = .int .i64 i ∧ i ≤ bn ∧ Hid (ckBs j o.bs = ckBs j (o.bs.drop i)) ∧ Below V.heap.size V wr) (fun v _ _ => bn - (intOf v).toNat)
         case atStart => exact ⟨0,rfl,by omega,Lib.hid (by simp),hBV⟩
         case round =>
          clear hBV
          obtain ⟨i,rfl,hi,hh,hBV⟩:=hrel
          obtain ⟨l0,l1,l2,l3,lf',lz⟩:=(HK1.out.call hBV).four
          by_cases hin : i < bn
          ·have hil : i < o.bs.length:=by rw [HB.out]; exact hin
           have hiw : IntKind.i64.wrap ((i : Int) + 1) = (i : Int) + 1:=IntWalk.i64_in _ (by omega)
           obtain ⟨ba,G,gc,rfl,hba,p0,p1,p2,p3,hgs⟩:=hA1.bs.at_ hil
           have hst:=ckBs_step (m:=j) hil
           have hgl:=HGG.out _ (List.getElem_mem hil)
           obtain ⟨⟨wt,ct,gt,gr⟩,hbe⟩ : ∃ b,o.bs[i] = b:=⟨_,rfl⟩
           rw [hbe] at p0 p1 p2 p3 hgs hst hgl
           dsimp only at p0 p1 p2 p3 hgs hgl
           have HST:=Lib.hid hst
           clear hbe hst
           go_wp2_with fail
           clear l0 l1 l2 l3 lf' lz
           refine AnyG.startC (by kernel_rfl) ?_
           refine AnyG.takeP (i:=1) (v:=?_) rfl (by kernel_rfl) (fun _ _ _ h => h) rfl ?_ ?_
           rotate_left
           ·(intro w'; go_simp; try with_reducible rfl)
           try simp only [Act.put,Sp1,Sp2,Sp3,Sp4,Sp5,Sp6]
           refine AnyG.takeP (i:=3) (v:=?_) rfl (by kernel_rfl) (fun _ _ _ h => h) rfl ?_ ?_
           rotate_left
           ·(intro w'; go_simp; try with_reducible rfl)
           try simp only [Act.put,Sp1,Sp2,Sp3,Sp4,Sp5,Sp6]
           refine AnyG.enter (fun w' : World => Below V.heap.size V w') (fun i => true) ?_
           have hS : (fun w' : World => Below V.heap.size V w') (World.drew _):=hBV.drew
           refine AnyG.takeC (i:=0) (v:=?_) rfl (by kernel_rfl) (fun _ _ _ h => h) rfl ?_ hS ?_
           rotate_left
           ·(intro w' hSw; (try dsimp only at hSw); obtain ⟨l0,l1,l2,l3,lf2,lz⟩:=(HK1.out.call hSw).four; go_simp; try with_reducible rfl)
           try simp only [Act.put,Sp1,Sp2,Sp3,Sp4,Sp5,Sp6]
           refine AnyG.takeC (i:=2) (v:=?_) rfl (by kernel_rfl) (fun _ _ _ h => h) rfl ?_ hS ?_
           rotate_left
           ·(intro w' hSw; (try dsimp only at hSw); obtain ⟨l0,l1,l2,l3,lf2,lz⟩:=(HK1.out.call hSw).four; go_simp; try with_reducible rfl)
           try simp only [Act.put,Sp1,Sp2,Sp3,Sp4,Sp5,Sp6]
           refine AnyG.takeC (i:=4) (v:=?_) rfl (by kernel_rfl) (fun _ _ _ h => h) rfl ?_ hS ?_
           rotate_left
           ·(intro w' hSw; (try dsimp only at hSw); go_simp; try with_reducible rfl)
           try simp only [Act.put,Sp1,Sp2,Sp3,Sp4,Sp5,Sp6]
           refine AnyG.takeC (i:=5) (v:=?_) rfl (by kernel_rfl) (fun _ _ _ h => h) rfl ?_ hS ?_
           rotate_left
           ·(intro w' hSw; (try dsimp only at hSw); have q0:=cellC hSw p0; have q1:=cellC hSw p1; have q2:=cellC hSw p2; have q3:=cellC hSw p3; go_simp; try with_reducible rfl)
           try simp only [Act.put,Sp1,Sp2,Sp3,Sp4,Sp5,Sp6]
           refine AnyG.one (i:=6) (by kernel_rfl) rfl rfl ?_
           go_simp
           refine (refCheckBin_any LA j lc (some ba) bn bc ⟨o.lm,le,mo,o.bs⟩ G gr.length gc wt ct gt gr _ (by omega) (by omega) rfl (hgs.call hS)).mono ?_
           rintro e6 y6 ⟨rfl,hb6⟩
           refine Onward.on (hS.trans (hb6.mono hS.size)) (fun hS2 => ?_)
           clear hS
           have hS:=hS2
           clear hS2
           try simp only [Act.put,Sp1,Sp2,Sp3,Sp4,Sp5,Sp6]
           refine AnyG.takeC (i:=7) (v:=?_) rfl (by kernel_rfl) (fun _ _ _ h => h) rfl ?_ hS ?_
           rotate_left
           ·(intro w' hSw; (try dsimp only at hSw); go_simp; try with_reducible rfl)
           try simp only [Act.put,Sp1,Sp2,Sp3,Sp4,Sp5,Sp6]
           refine AnyG.done (by kernel_rfl) ?_ _
           have hB2 : Below V.heap.size V _:=hS
           clear hS
           go_simp
           obtain ⟨cv,hcv⟩ : ∃ x,ckB j ⟨wt,ct,gt,gr⟩ = x:=⟨_,rfl⟩
           have hst:=HST.out
           rw [hcv] at hst ⊢
           by_cases hc0 : cv = 0
           ·subst hc0
            have hz : ckBs j o.bs = ckBs j (o.bs.drop (i + 1)):=by rw [hh.out,hst]; simp
            have HZ:=Lib.hid hz
            clear hcv hst hz
            go_wp2_with fail
            go_roundw
            case rel => exact ⟨i + 1,by go_num,by omega,HZ,hB2⟩
            case measure => simp [intOf]; omega
           ·have d9 : (cv == 0) = false:=by simp; exact hc0
            have hz : ckBs j o.bs = cv:=by rw [hh.out,hst,if_pos hc0]
            have HZ:=Lib.hid hz
            clear hcv hst hz hc0
            go_wp2_with fail
            go_ret
            rw [HE4.out,HZ.out]
            exact ⟨rfl,B0.trans (hB2.mono B0.size)⟩
          ·obtain rfl : i = bn:=by omega
           have hz : ckBs j o.bs = 0:=by rw [hh.out,List.drop_of_length_le (by rw [HB.out]; exact Nat.le_refl _)]; rfl
           have HZ:=Lib.hid hz
           clear hz
           go_wp2_with fail
           go_ret
           rw [HE4.out,HZ.out]
           exact ⟨rfl,B0.trans (hBV.mono B0.size)⟩
end Go.Proofs.Ytmemcopfeabcgaa
