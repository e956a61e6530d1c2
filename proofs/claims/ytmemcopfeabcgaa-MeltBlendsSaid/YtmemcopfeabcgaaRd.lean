/- The reference of layer 6: checkBlend, Weigh, Keeps. -/
import Derived.Test.YtmemcopfeabcgaaRc
set_option linter.unusedSimpArgs false
set_option linter.unusedVariables false
namespace Go.Proofs.Ytmemcopfeabcgaa
open Go Go.RowKit
set_option maxRecDepth 100000 in
set_option maxHeartbeats 4000000 in
theorem refCheckBlend_any (LA : Option Addr) (ln lc : Nat) (BA : Option Addr) (bn bc : Nat) (o : Od) (SA : Option Addr) (n sc : Nat) (BL : List Int) (w : World) (hln : ln ≤ 1000) (hbn : bn ≤ 1000) (hn : n ≤ 1000) (hl : o.lm.length = ln) (hb' : o.bs.length = bn) (hA : OrdAt w w.heap.size LA BA o) (hG : ∀ b ∈ o.bs, b.gr.length ≤ 1000) (hL : BL.length = n) (hS : Sl w w.heap.size 1 SA (inr BL)) :
    Calls Try.prog 70 #[.agg #[.slice LA ln lc, .int .i64 o.le, .int .i64 o.mo, .slice BA bn bc], .slice SA n sc] w fun e w' => e = .returned (.int .i64 (ckBl o BL)) ∧ Below w.heap.size w w' := by
  have k1 := Bx.new w 27 #[.slice LA ln lc, .int .i64 o.le, .int .i64 o.mo, .slice BA bn bc]
  have B0 := (Below.refl w.heap.size w).alloc (Nat.le_refl _) (.cells #[.slice LA ln lc, .int .i64 o.le, .int .i64 o.mo, .slice BA bn bc] 27)
  obtain ⟨V, hV⟩ : ∃ V, w.alloc (.cells #[.slice LA ln lc, .int .i64 o.le, .int .i64 o.mo, .slice BA bn bc] 27) = V := ⟨_, rfl⟩
  have hA1 := hA.call B0
  have hS1 := hS.call B0
  rw [hV] at k1 B0 hA1 hS1
  have HB := Lib.hid hb'
  have HLN := Lib.hid hl
  have HL := Lib.hid hL
  have HV := Lib.hid hV
  have HK1 := Lib.hid k1
  have HGG := Lib.hid hG
  clear hV hl hb' hA hG hL hS k1
  have hBV := Below.refl V.heap.size V
  obtain ⟨l0, l1, l2, l3, lf', lz⟩ := (HK1.out.call hBV).four
  obtain ⟨ce, hce⟩ : ∃ x, ckO o = x := ⟨_, rfl⟩
  have ev : ckBl o BL = (if ce ≠ 0 then ce else if n ≠ bn then 2 else ckV (o.bs.zip BL)) := by unfold ckBl; rw [hce, HL.out, HB.out]
  have HEV := Lib.hid ev
  have HCE := Lib.hid hce
  clear ev hce
  go_enter Try.func70, Try.ntmps70
  go_upto_region 1 with fail
  rw [HV.out]
  go_upto_region 2 with (first | (go_at_call 38; refine (refCheck_any LA ln lc BA bn bc o _ hln hbn HLN.out HB.out hA1 HGG.out).mono ?_; rintro e w1 ⟨rfl, hb1⟩; rw [HCE.out]) | fail)
  replace hBV := hBV.trans (hb1.mono hBV.size)
  clear l0 l1 l2 l3 lf' lz hb1
  obtain ⟨l0, l1, l2, l3, lf', lz⟩ := (HK1.out.call hBV).four
  by_cases hc : ce = 0
  · subst hc
    have ev := HEV.out
    simp only [ne_eq, not_true_eq_false, if_false] at ev
    have HE2 := Lib.hid ev
    clear ev HEV
    by_cases hnb : n = bn
    · subst hnb
      have ev := HE2.out
      simp only [not_true_eq_false, if_false] at ev
      have HE3 := Lib.hid ev
      clear ev HE2
      have hok := ckO_zero.1 HCE.out
      have hb4 : n ≤ 4 := by rw [← HB.out]; exact hok.b2
      clear hok
      go_wp2_with fail
      clear l0 l1 l2 l3 lf' lz
      go_loopw [6] (fun v wr => ∃ (i : Nat), v = .int .i64 i ∧ i ≤ n ∧ Hid (ckV (o.bs.zip BL) = ckV ((o.bs.zip BL).drop i)) ∧ Below V.heap.size V wr) (fun v _ => n - (intOf v).toNat)
      case atStart => exact ⟨0, rfl, by omega, Lib.hid (by simp), hBV⟩
      case round =>
        clear hBV
        obtain ⟨i, rfl, hi, hh, hBV⟩ := hrel
        by_cases hin : i < n
        · have hil : i < o.bs.length := by rw [HB.out]; exact hin
          have hbl : i < BL.length := by rw [HL.out]; exact hin
          have hiw : IntKind.i64.wrap ((i : Int) + 1) = (i : Int) + 1 := IntWalk.i64_in _ (by omega)
          obtain ⟨ba, G, gc, rfl, hba, -, -, -, p3, -⟩ := hA1.bs.at_ hil
          obtain ⟨sa, rfl, hsa, s0⟩ := inr_at hS1 hbl
          have hst := ckV_step hil hbl
          obtain ⟨gx, hgx⟩ : ∃ x, (o.bs[i]).g = x := ⟨_, rfl⟩
          obtain ⟨x, hx⟩ : ∃ x, BL[i] = x := ⟨_, rfl⟩
          rw [hgx] at p3 hst
          rw [hx] at s0 hst
          have HST := Lib.hid hst
          clear hst hgx hx
          obtain ⟨l0, l1, l2, l3, lf', lz⟩ := (HK1.out.call hBV).four
          go_wp2_with fail
          clear l0 l1 l2 l3 lf' lz
          cases hd : decide (0 ≤ x ∧ x ≤ gx) with
          | false =>
            have HD := Lib.hid hd
            have hz : ckV (o.bs.zip BL) = 1 := by have := of_decide_eq_false hd; rw [hh.out, HST.out, if_pos (by omega)]
            have HZ := Lib.hid hz
            clear hd hz
            refine AnyG.startC (by kernel_rfl) ?_
            refine AnyG.takeP (i := 0) (v := ?_) rfl (by kernel_rfl) (fun _ _ _ h => h) rfl ?_ ?_
            rotate_left
            · (intro w'; go_simp; try with_reducible rfl)
            try simp only [Act.put, List.getElem_toArray, List.getElem_cons_succ, List.getElem_cons_zero, List.setIfInBounds_toArray, List.set_cons_zero, List.set_cons_succ]
            refine AnyG.takeP (i := 1) (v := ?_) rfl (by kernel_rfl) (fun _ _ _ h => h) rfl ?_ ?_
            rotate_left
            · (intro w'; go_simp; try with_reducible rfl)
            try simp only [Act.put, List.getElem_toArray, List.getElem_cons_succ, List.getElem_cons_zero, List.setIfInBounds_toArray, List.set_cons_zero, List.set_cons_succ]
            refine AnyG.takeP (i := 2) (v := ?_) rfl (by kernel_rfl) (fun _ _ _ h => h) rfl ?_ ?_
            rotate_left
            · (intro w'; go_simp; try with_reducible rfl)
            try simp only [Act.put, List.getElem_toArray, List.getElem_cons_succ, List.getElem_cons_zero, List.setIfInBounds_toArray, List.set_cons_zero, List.set_cons_succ]
            refine AnyG.takeP (i := 4) (v := ?_) rfl (by kernel_rfl) (fun _ _ _ h => h) rfl ?_ ?_
            rotate_left
            · (intro w'; go_simp; try with_reducible rfl)
            try simp only [Act.put, List.getElem_toArray, List.getElem_cons_succ, List.getElem_cons_zero, List.setIfInBounds_toArray, List.set_cons_zero, List.set_cons_succ]
            refine AnyG.takeP (i := 6) (v := ?_) rfl (by kernel_rfl) (fun _ _ _ h => h) rfl ?_ ?_
            rotate_left
            · (intro w'; go_simp; try with_reducible rfl)
            try simp only [Act.put, List.getElem_toArray, List.getElem_cons_succ, List.getElem_cons_zero, List.setIfInBounds_toArray, List.set_cons_zero, List.set_cons_succ]
            refine AnyG.enter (fun w' : World => Below V.heap.size V w') (fun i => true) ?_
            have hS : (fun w' : World => Below V.heap.size V w') (World.drew _) := hBV.drew
            refine AnyG.takeC (i := 3) (v := ?_) rfl (by kernel_rfl) (fun _ _ _ h => h) rfl ?_ hS ?_
            rotate_left
            · (intro w' hSw; (try dsimp only at hSw); have q := cellC hSw s0; go_simp; try with_reducible rfl)
            try simp only [Act.put, List.getElem_toArray, List.getElem_cons_succ, List.getElem_cons_zero, List.setIfInBounds_toArray, List.set_cons_zero, List.set_cons_succ]
            refine AnyG.takeC (i := 5) (v := ?_) rfl (by kernel_rfl) (fun _ _ _ h => h) rfl ?_ hS ?_
            rotate_left
            · (intro w' hSw; (try dsimp only at hSw); obtain ⟨l0, l1, l2, l3, lf2, lz⟩ := (HK1.out.call hSw).four; go_simp; try with_reducible rfl)
            try simp only [Act.put, List.getElem_toArray, List.getElem_cons_succ, List.getElem_cons_zero, List.setIfInBounds_toArray, List.set_cons_zero, List.set_cons_succ]
            refine AnyG.takeC (i := 7) (v := ?_) rfl (by kernel_rfl) (fun _ _ _ h => h) rfl ?_ hS ?_
            rotate_left
            · (intro w' hSw; (try dsimp only at hSw); go_simp; try with_reducible rfl)
            try simp only [Act.put, List.getElem_toArray, List.getElem_cons_succ, List.getElem_cons_zero, List.setIfInBounds_toArray, List.set_cons_zero, List.set_cons_succ]
            refine AnyG.takeC (i := 8) (v := ?_) rfl (by kernel_rfl) (fun _ _ _ h => h) rfl ?_ hS ?_
            rotate_left
            · (intro w' hSw; (try dsimp only at hSw); go_simp; try with_reducible rfl)
            try simp only [Act.put, List.getElem_toArray, List.getElem_cons_succ, List.getElem_cons_zero, List.setIfInBounds_toArray, List.set_cons_zero, List.set_cons_succ]
            refine AnyG.takeC (i := 9) (v := ?_) rfl (by kernel_rfl) (fun _ _ _ h => h) rfl ?_ hS ?_
            rotate_left
            · (intro w' hSw; (try dsimp only at hSw); have q := cellC hSw p3; go_simp; try with_reducible rfl)
            try simp only [Act.put, List.getElem_toArray, List.getElem_cons_succ, List.getElem_cons_zero, List.setIfInBounds_toArray, List.set_cons_zero, List.set_cons_succ]
            refine AnyG.one (i := 10) (by kernel_rfl) rfl rfl ?_
            go_simp
            refine (from65_any _ _ _ _).mono ?_
            rintro e10 y10 ⟨rfl, hb10⟩
            rw [HD.out]
            refine Onward.on (hS.trans (hb10.mono hS.size)) (fun hS2 => ?_)
            clear hS
            have hS := hS2
            clear hS2
            try simp only [Act.put, List.getElem_toArray, List.getElem_cons_succ, List.getElem_cons_zero, List.setIfInBounds_toArray, List.set_cons_zero, List.set_cons_succ]
            refine AnyG.takeC (i := 11) (v := ?_) rfl (by kernel_rfl) (fun _ _ _ h => h) rfl ?_ hS ?_
            rotate_left
            · (intro w' hSw; (try dsimp only at hSw); go_simp; try with_reducible rfl)
            try simp only [Act.put, List.getElem_toArray, List.getElem_cons_succ, List.getElem_cons_zero, List.setIfInBounds_toArray, List.set_cons_zero, List.set_cons_succ]
            refine AnyG.done (by kernel_rfl) ?_ _
            have hB2 : Below V.heap.size V _ := hS
            clear hS
            go_simp
            go_wp2_with fail
            go_ret
            rw [HE3.out, HZ.out]
            exact ⟨rfl, B0.trans (hB2.mono B0.size)⟩
          | true =>
            have HD := Lib.hid hd
            have hz : ckV (o.bs.zip BL) = ckV ((o.bs.zip BL).drop (i + 1)) := by have := of_decide_eq_true hd; rw [hh.out, HST.out, if_neg (by omega)]
            have HZ := Lib.hid hz
            clear hd hz
            refine AnyG.startC (by kernel_rfl) ?_
            refine AnyG.takeP (i := 0) (v := ?_) rfl (by kernel_rfl) (fun _ _ _ h => h) rfl ?_ ?_
            rotate_left
            · (intro w'; go_simp; try with_reducible rfl)
            try simp only [Act.put, List.getElem_toArray, List.getElem_cons_succ, List.getElem_cons_zero, List.setIfInBounds_toArray, List.set_cons_zero, List.set_cons_succ]
            refine AnyG.takeP (i := 1) (v := ?_) rfl (by kernel_rfl) (fun _ _ _ h => h) rfl ?_ ?_
            rotate_left
            · (intro w'; go_simp; try with_reducible rfl)
            try simp only [Act.put, List.getElem_toArray, List.getElem_cons_succ, List.getElem_cons_zero, List.setIfInBounds_toArray, List.set_cons_zero, List.set_cons_succ]
            refine AnyG.takeP (i := 2) (v := ?_) rfl (by kernel_rfl) (fun _ _ _ h => h) rfl ?_ ?_
            rotate_left
            · (intro w'; go_simp; try with_reducible rfl)
            try simp only [Act.put, List.getElem_toArray, List.getElem_cons_succ, List.getElem_cons_zero, List.setIfInBounds_toArray, List.set_cons_zero, List.set_cons_succ]
            refine AnyG.takeP (i := 4) (v := ?_) rfl (by kernel_rfl) (fun _ _ _ h => h) rfl ?_ ?_
            rotate_left
            · (intro w'; go_simp; try with_reducible rfl)
            try simp only [Act.put, List.getElem_toArray, List.getElem_cons_succ, List.getElem_cons_zero, List.setIfInBounds_toArray, List.set_cons_zero, List.set_cons_succ]
            refine AnyG.takeP (i := 6) (v := ?_) rfl (by kernel_rfl) (fun _ _ _ h => h) rfl ?_ ?_
            rotate_left
            · (intro w'; go_simp; try with_reducible rfl)
            try simp only [Act.put, List.getElem_toArray, List.getElem_cons_succ, List.getElem_cons_zero, List.setIfInBounds_toArray, List.set_cons_zero, List.set_cons_succ]
            refine AnyG.enter (fun w' : World => Below V.heap.size V w') (fun i => true) ?_
            have hS : (fun w' : World => Below V.heap.size V w') (World.drew _) := hBV.drew
            refine AnyG.takeC (i := 3) (v := ?_) rfl (by kernel_rfl) (fun _ _ _ h => h) rfl ?_ hS ?_
            rotate_left
            · (intro w' hSw; (try dsimp only at hSw); have q := cellC hSw s0; go_simp; try with_reducible rfl)
            try simp only [Act.put, List.getElem_toArray, List.getElem_cons_succ, List.getElem_cons_zero, List.setIfInBounds_toArray, List.set_cons_zero, List.set_cons_succ]
            refine AnyG.takeC (i := 5) (v := ?_) rfl (by kernel_rfl) (fun _ _ _ h => h) rfl ?_ hS ?_
            rotate_left
            · (intro w' hSw; (try dsimp only at hSw); obtain ⟨l0, l1, l2, l3, lf2, lz⟩ := (HK1.out.call hSw).four; go_simp; try with_reducible rfl)
            try simp only [Act.put, List.getElem_toArray, List.getElem_cons_succ, List.getElem_cons_zero, List.setIfInBounds_toArray, List.set_cons_zero, List.set_cons_succ]
            refine AnyG.takeC (i := 7) (v := ?_) rfl (by kernel_rfl) (fun _ _ _ h => h) rfl ?_ hS ?_
            rotate_left
            · (intro w' hSw; (try dsimp only at hSw); go_simp; try with_reducible rfl)
            try simp only [Act.put, List.getElem_toArray, List.getElem_cons_succ, List.getElem_cons_zero, List.setIfInBounds_toArray, List.set_cons_zero, List.set_cons_succ]
            refine AnyG.takeC (i := 8) (v := ?_) rfl (by kernel_rfl) (fun _ _ _ h => h) rfl ?_ hS ?_
            rotate_left
            · (intro w' hSw; (try dsimp only at hSw); go_simp; try with_reducible rfl)
            try simp only [Act.put, List.getElem_toArray, List.getElem_cons_succ, List.getElem_cons_zero, List.setIfInBounds_toArray, List.set_cons_zero, List.set_cons_succ]
            refine AnyG.takeC (i := 9) (v := ?_) rfl (by kernel_rfl) (fun _ _ _ h => h) rfl ?_ hS ?_
            rotate_left
            · (intro w' hSw; (try dsimp only at hSw); have q := cellC hSw p3; go_simp; try with_reducible rfl)
            try simp only [Act.put, List.getElem_toArray, List.getElem_cons_succ, List.getElem_cons_zero, List.setIfInBounds_toArray, List.set_cons_zero, List.set_cons_succ]
            refine AnyG.one (i := 10) (by kernel_rfl) rfl rfl ?_
            go_simp
            refine (from65_any _ _ _ _).mono ?_
            rintro e10 y10 ⟨rfl, hb10⟩
            rw [HD.out]
            refine Onward.on (hS.trans (hb10.mono hS.size)) (fun hS2 => ?_)
            clear hS
            have hS := hS2
            clear hS2
            try simp only [Act.put, List.getElem_toArray, List.getElem_cons_succ, List.getElem_cons_zero, List.setIfInBounds_toArray, List.set_cons_zero, List.set_cons_succ]
            refine AnyG.takeC (i := 11) (v := ?_) rfl (by kernel_rfl) (fun _ _ _ h => h) rfl ?_ hS ?_
            rotate_left
            · (intro w' hSw; (try dsimp only at hSw); go_simp; try with_reducible rfl)
            try simp only [Act.put, List.getElem_toArray, List.getElem_cons_succ, List.getElem_cons_zero, List.setIfInBounds_toArray, List.set_cons_zero, List.set_cons_succ]
            refine AnyG.done (by kernel_rfl) ?_ _
            have hB2 : Below V.heap.size V _ := hS
            clear hS
            go_simp
            go_wp2_with fail
            go_roundw
            case rel => exact ⟨i + 1, by go_num, by omega, HZ, hB2⟩
            case measure => simp [intOf]; omega
        · obtain rfl : i = n := by omega
          have hz : ckV (o.bs.zip BL) = 0 := by rw [hh.out, List.drop_of_length_le (by rw [List.length_zip, HB.out, HL.out]; omega)]; rfl
          have HZ := Lib.hid hz
          clear hz
          go_wp2_with fail
          go_ret
          rw [HE3.out, HZ.out]
          exact ⟨rfl, B0.trans (hBV.mono B0.size)⟩
    · have d : ((n : Int) == (bn : Int)) = false := by simp; omega
      have HH := Lib.hid hnb
      clear hnb
      go_wp2_with fail
      go_ret
      rw [HE2.out, if_pos HH.out]
      exact ⟨rfl, B0.trans (hBV.mono B0.size)⟩
  · have d : (ce == 0) = false := by simp; exact hc
    have HH := Lib.hid hc
    clear hc
    go_wp2_with fail
    go_ret
    rw [HEV.out, if_pos HH.out]
    exact ⟨rfl, B0.trans (hBV.mono B0.size)⟩
set_option maxRecDepth 100000 in
set_option maxHeartbeats 4000000 in
theorem refWeigh_any (LA : Option Addr) (ln lc : Nat) (BA : Option Addr) (bn bc : Nat) (o : Od) (SA : Option Addr) (n sc : Nat) (BL : List Int) (w : World) (hln : ln ≤ 1000) (hbn : bn ≤ 1000) (hn : n ≤ 1000) (hl : o.lm.length = ln) (hb' : o.bs.length = bn) (hA : OrdAt w w.heap.size LA BA o) (hG : ∀ b ∈ o.bs, b.gr.length ≤ 1000) (hL : BL.length = n) (hS : Sl w w.heap.size 1 SA (inr BL)) :
    Calls Try.prog 35 #[.agg #[.slice LA ln lc, .int .i64 o.le, .int .i64 o.mo, .slice BA bn bc], .slice SA n sc] w fun e w' => e = .returned (.tuple (if ckBl o BL ≠ 0 then #[.int .i64 0, .int .i64 0, .int .i64 (ckBl o BL)] else #[.int .i64 (kil o (lf BL) bn), .int .i64 (cst o (lf BL) bn), .int .i64 0])) ∧ Below w.heap.size w w' := by
  have k1 := Bx.new w 27 #[.slice LA ln lc, .int .i64 o.le, .int .i64 o.mo, .slice BA bn bc]
  have B0 := (Below.refl w.heap.size w).alloc (Nat.le_refl _) (.cells #[.slice LA ln lc, .int .i64 o.le, .int .i64 o.mo, .slice BA bn bc] 27)
  obtain ⟨V, hV⟩ : ∃ V, w.alloc (.cells #[.slice LA ln lc, .int .i64 o.le, .int .i64 o.mo, .slice BA bn bc] 27) = V := ⟨_, rfl⟩
  have hA1 := hA.call B0
  have hS1 := hS.call B0
  rw [hV] at k1 B0 hA1 hS1
  have HB := Lib.hid hb'
  have HLN := Lib.hid hl
  have HL := Lib.hid hL
  have HV := Lib.hid hV
  have HK1 := Lib.hid k1
  have HGG := Lib.hid hG
  clear hV hl hb' hA hG hL hS k1
  have hBV := Below.refl V.heap.size V
  obtain ⟨l0, l1, l2, l3, lf', lz⟩ := (HK1.out.call hBV).four
  obtain ⟨ce, hce⟩ : ∃ x, ckBl o BL = x := ⟨_, rfl⟩
  rw [hce]
  have HCE := Lib.hid hce
  clear hce
  by_cases hc : ce = 0
  · subst hc
    have hok := ckBl_zero HCE.out
    have hln' : n = bn := by rw [← HL.out, ← HB.out]; exact hok.len
    subst hln'
    have HOK := Lib.hid hok.ok
    have H6 := Lib.hid hok.six
    clear hok
    rw [if_neg (by simp)]
    go_enter Try.func35, Try.ntmps35
    go_upto_region 1 with fail
    rw [HV.out]
    go_upto_region 4 with (first | (go_at_call 70; refine (refCheckBlend_any LA ln lc BA n bc o SA n sc BL _ hln hbn hn HLN.out HB.out hA1 HGG.out HL.out hS1).mono ?_; rintro e w1 ⟨rfl, hb1⟩; rw [HCE.out]) | fail)
    replace hBV := hBV.trans (hb1.mono hBV.size)
    clear l0 l1 l2 l3 lf' lz hb1
    go_wp2_with fail
    refine AnyG.startC (by kernel_rfl) ?_
    refine AnyG.takeP (i := 1) (v := ?_) rfl (by kernel_rfl) (fun _ _ _ h => h) rfl ?_ ?_
    rotate_left
    · (intro w'; go_simp; try with_reducible rfl)
    try simp only [Act.put, List.getElem_toArray, List.getElem_cons_succ, List.getElem_cons_zero, List.setIfInBounds_toArray, List.set_cons_zero, List.set_cons_succ]
    refine AnyG.takeP (i := 4) (v := ?_) rfl (by kernel_rfl) (fun _ _ _ h => h) rfl ?_ ?_
    rotate_left
    · (intro w'; go_simp; try with_reducible rfl)
    try simp only [Act.put, List.getElem_toArray, List.getElem_cons_succ, List.getElem_cons_zero, List.setIfInBounds_toArray, List.set_cons_zero, List.set_cons_succ]
    refine AnyG.enter (fun w' : World => Below V.heap.size V w') (fun i => i != 8) ?_
    have hS : (fun w' : World => Below V.heap.size V w') (World.drew _) := hBV.drew
    refine AnyG.takeC (i := 0) (v := ?_) rfl (by kernel_rfl) (fun _ _ _ h => h) rfl ?_ hS ?_
    rotate_left
    · (intro w' hSw; (try dsimp only at hSw); obtain ⟨l0, l1, l2, l3, lf2, lz⟩ := (HK1.out.call hSw).four; go_simp; try with_reducible rfl)
    try simp only [Act.put, List.getElem_toArray, List.getElem_cons_succ, List.getElem_cons_zero, List.setIfInBounds_toArray, List.set_cons_zero, List.set_cons_succ]
    refine AnyG.takeC (i := 3) (v := ?_) rfl (by kernel_rfl) (fun _ _ _ h => h) rfl ?_ hS ?_
    rotate_left
    · (intro w' hSw; (try dsimp only at hSw); obtain ⟨l0, l1, l2, l3, lf2, lz⟩ := (HK1.out.call hSw).four; go_simp; try with_reducible rfl)
    try simp only [Act.put, List.getElem_toArray, List.getElem_cons_succ, List.getElem_cons_zero, List.setIfInBounds_toArray, List.set_cons_zero, List.set_cons_succ]
    refine AnyG.one (i := 2) (by kernel_rfl) rfl rfl ?_
    go_simp
    refine (refKilos_any LA ln lc BA n bc o SA n sc BL _ HB.out (hA1.call hS) HOK.out HL.out (Nat.le_refl _) (hS1.call hS) H6.out).mono ?_
    rintro e2 y2 ⟨rfl, hb2⟩
    refine Onward.on (hS.trans (hb2.mono hS.size)) (fun hS2 => ?_)
    clear hS
    have hS := hS2
    clear hS2
    try simp only [Act.put, List.getElem_toArray, List.getElem_cons_succ, List.getElem_cons_zero, List.setIfInBounds_toArray, List.set_cons_zero, List.set_cons_succ]
    refine AnyG.one (i := 5) (by kernel_rfl) rfl rfl ?_
    go_simp
    refine (refCost_any LA ln lc BA n bc o SA n sc BL _ HB.out (hA1.call hS) HOK.out HL.out (Nat.le_refl _) (hS1.call hS) H6.out).mono ?_
    rintro e5 y5 ⟨rfl, hb5⟩
    refine Onward.on (hS.trans (hb5.mono hS.size)) (fun hS2 => ?_)
    clear hS
    have hS := hS2
    clear hS2
    try simp only [Act.put, List.getElem_toArray, List.getElem_cons_succ, List.getElem_cons_zero, List.setIfInBounds_toArray, List.set_cons_zero, List.set_cons_succ]
    refine AnyG.takeC (i := 6) (v := ?_) rfl (by kernel_rfl) (fun _ _ _ h => h) rfl ?_ hS ?_
    rotate_left
    · (intro w' hSw; (try dsimp only at hSw); go_simp; try with_reducible rfl)
    try simp only [Act.put, List.getElem_toArray, List.getElem_cons_succ, List.getElem_cons_zero, List.setIfInBounds_toArray, List.set_cons_zero, List.set_cons_succ]
    refine AnyG.takeC (i := 7) (v := ?_) rfl (by kernel_rfl) (fun _ _ _ h => h) rfl ?_ hS ?_
    rotate_left
    · (intro w' hSw; (try dsimp only at hSw); go_simp; try with_reducible rfl)
    try simp only [Act.put, List.getElem_toArray, List.getElem_cons_succ, List.getElem_cons_zero, List.setIfInBounds_toArray, List.set_cons_zero, List.set_cons_succ]
    refine AnyG.takeC (i := 8) (v := ?_) rfl (by kernel_rfl) (fun _ _ _ h => h) rfl ?_ hS ?_
    rotate_left
    · (intro w' hSw; (try dsimp only at hSw); go_simp; try with_reducible rfl)
    try simp only [Act.put, List.getElem_toArray, List.getElem_cons_succ, List.getElem_cons_zero, List.setIfInBounds_toArray, List.set_cons_zero, List.set_cons_succ]
    refine AnyG.done (by kernel_rfl) ?_ _
    have hB2 : Below V.heap.size V _ := hS
    clear hS
    go_simp
    go_wp2_with fail
    refine bodyPost_ret (v := .tuple #[.int .i64 (kil o (lf BL) n), .int .i64 (cst o (lf BL) n), .int .i64 0]) (by simp [results, Try.results35, go_sem]) rfl ⟨rfl, B0.trans (hB2.mono B0.size)⟩
  · have d : (ce == 0) = false := by simp; exact hc
    rw [if_pos hc]
    clear hc
    go_enter Try.func35, Try.ntmps35
    go_upto_region 1 with fail
    rw [HV.out]
    go_wp2_with (first | (go_at_call 70; refine (refCheckBlend_any LA ln lc BA bn bc o SA n sc BL _ hln hbn hn HLN.out HB.out hA1 HGG.out HL.out hS1).mono ?_; rintro e w1 ⟨rfl, hb1⟩; rw [HCE.out]) | fail)
    refine bodyPost_ret (v := .tuple #[.int .i64 0, .int .i64 0, .int .i64 ce]) (by simp [results, Try.results35, go_sem]) rfl ⟨rfl, B0.trans (hb1.mono B0.size)⟩
theorem kv_hld {o : Od} (ho : o.Ok) {b : Nat → Int} (hb : Six b) : kv o b = (if hld o b true o.lm.length = true then 1 else if hld o b false o.lm.length = true then 3 else 2) := by
  unfold kv hld
  simp only [if_true, Bool.false_eq_true, if_false]
  cases hx : xk o b o.lm.length with
  | false =>
    have hn : nk o b o.lm.length = false := by
      rw [Bool.eq_false_iff]
      intro hn
      rw [Bool.eq_false_iff] at hx
      apply hx
      simp only [nk, xk, List.any_eq_true, List.mem_range, decide_eq_true_eq] at hn ⊢
      obtain ⟨j, hj, h⟩ := hn
      exact ⟨j, hj, Int.lt_of_lt_of_le h (exN_exX ho hb (Nat.le_refl _))⟩
    rw [hn]; simp
  | true => cases nk o b o.lm.length <;> simp
set_option maxRecDepth 100000 in
set_option maxHeartbeats 4000000 in
theorem refKeeps_any (LA : Option Addr) (ln lc : Nat) (BA : Option Addr) (bn bc : Nat) (o : Od) (SA : Option Addr) (n sc : Nat) (BL : List Int) (w : World) (hln : ln ≤ 1000) (hbn : bn ≤ 1000) (hn : n ≤ 1000) (hl : o.lm.length = ln) (hb' : o.bs.length = bn) (hA : OrdAt w w.heap.size LA BA o) (hG : ∀ b ∈ o.bs, b.gr.length ≤ 1000) (hL : BL.length = n) (hS : Sl w w.heap.size 1 SA (inr BL)) :
    Calls Try.prog 36 #[.agg #[.slice LA ln lc, .int .i64 o.le, .int .i64 o.mo, .slice BA bn bc], .slice SA n sc] w fun e w' => e = .returned (.tuple (if ckBl o BL ≠ 0 then #[.int .i64 0, .int .i64 (ckBl o BL)] else #[.int .i64 (kv o (lf BL)), .int .i64 0])) ∧ Below w.heap.size w w' := by
  have k1 := Bx.new w 27 #[.slice LA ln lc, .int .i64 o.le, .int .i64 o.mo, .slice BA bn bc]
  have B0 := (Below.refl w.heap.size w).alloc (Nat.le_refl _) (.cells #[.slice LA ln lc, .int .i64 o.le, .int .i64 o.mo, .slice BA bn bc] 27)
  obtain ⟨V, hV⟩ : ∃ V, w.alloc (.cells #[.slice LA ln lc, .int .i64 o.le, .int .i64 o.mo, .slice BA bn bc] 27) = V := ⟨_, rfl⟩
  have hA1 := hA.call B0
  have hS1 := hS.call B0
  rw [hV] at k1 B0 hA1 hS1
  have HB := Lib.hid hb'
  have HLN := Lib.hid hl
  have HL := Lib.hid hL
  have HV := Lib.hid hV
  have HK1 := Lib.hid k1
  have HGG := Lib.hid hG
  clear hV hl hb' hA hG hL hS k1
  have hBV := Below.refl V.heap.size V
  obtain ⟨l0, l1, l2, l3, lf', lz⟩ := (HK1.out.call hBV).four
  obtain ⟨ce, hce⟩ : ∃ x, ckBl o BL = x := ⟨_, rfl⟩
  rw [hce]
  have HCE := Lib.hid hce
  clear hce
  by_cases hc : ce = 0
  · subst hc
    have hok := ckBl_zero HCE.out
    have hln' : n = bn := by rw [← HL.out, ← HB.out]; exact hok.len
    subst hln'
    have HOK := Lib.hid hok.ok
    have H6 := Lib.hid hok.six
    have hkv := kv_hld hok.ok hok.six
    rw [HLN.out] at hkv
    clear hok
    rw [if_neg (by simp), hkv]
    clear hkv
    cases h1 : hld o (lf BL) true ln with
    | true =>
      have HH1 := Lib.hid h1
      clear h1
      rw [if_pos rfl]
      go_enter Try.func36, Try.ntmps36
      go_upto_region 1 with fail
      rw [HV.out]
      go_wp2_with (first | (go_at_call 70; refine (refCheckBlend_any LA ln lc BA n bc o SA n sc BL _ hln hbn hn HLN.out HB.out (hA1.call hBV) HGG.out HL.out (hS1.call hBV)).mono ?_; rintro e xw ⟨rfl, hx⟩; rw [HCE.out]; replace hBV := hBV.trans (hx.mono hBV.size); clear l0 l1 l2 l3 lf' lz; obtain ⟨l0, l1, l2, l3, lf', lz⟩ := (HK1.out.call hBV).four) | (go_at_call 67; refine (refHolds_any LA ln lc BA n bc o SA sc BL true _ HLN.out HB.out (hA1.call hBV) HOK.out HL.out (hS1.call hBV) H6.out).mono ?_; rintro e xw ⟨rfl, hx⟩; rw [HH1.out]; replace hBV := hBV.trans (hx.mono hBV.size); clear l0 l1 l2 l3 lf' lz; obtain ⟨l0, l1, l2, l3, lf', lz⟩ := (HK1.out.call hBV).four) | fail)
      refine bodyPost_ret (v := .tuple #[.int .i64 1, .int .i64 0]) (by simp [results, Try.results36, go_sem]) rfl ⟨rfl, B0.trans (hBV.mono B0.size)⟩
    | false =>
      have HH1 := Lib.hid h1
      clear h1
      rw [if_neg (by simp)]
      cases h2 : hld o (lf BL) false ln with
      | true =>
        have HH2 := Lib.hid h2
        clear h2
        rw [if_pos rfl]
        go_enter Try.func36, Try.ntmps36
        go_upto_region 1 with fail
        rw [HV.out]
        go_upto_region 6 with (first | (go_at_call 70; refine (refCheckBlend_any LA ln lc BA n bc o SA n sc BL _ hln hbn hn HLN.out HB.out (hA1.call hBV) HGG.out HL.out (hS1.call hBV)).mono ?_; rintro e xw ⟨rfl, hx⟩; rw [HCE.out]; replace hBV := hBV.trans (hx.mono hBV.size); clear l0 l1 l2 l3 lf' lz; obtain ⟨l0, l1, l2, l3, lf', lz⟩ := (HK1.out.call hBV).four) | (go_at_call 67; refine (refHolds_any LA ln lc BA n bc o SA sc BL true _ HLN.out HB.out (hA1.call hBV) HOK.out HL.out (hS1.call hBV) H6.out).mono ?_; rintro e xw ⟨rfl, hx⟩; rw [HH1.out]; replace hBV := hBV.trans (hx.mono hBV.size); clear l0 l1 l2 l3 lf' lz; obtain ⟨l0, l1, l2, l3, lf', lz⟩ := (HK1.out.call hBV).four) | fail)
        go_wp2_with (first | (go_at_call 67; refine (refHolds_any LA ln lc BA n bc o SA sc BL false _ HLN.out HB.out (hA1.call hBV) HOK.out HL.out (hS1.call hBV) H6.out).mono ?_; rintro e xw ⟨rfl, hx⟩; rw [HH2.out]; replace hBV := hBV.trans (hx.mono hBV.size); clear l0 l1 l2 l3 lf' lz; obtain ⟨l0, l1, l2, l3, lf', lz⟩ := (HK1.out.call hBV).four) | fail)
        refine bodyPost_ret (v := .tuple #[.int .i64 3, .int .i64 0]) (by simp [results, Try.results36, go_sem]) rfl ⟨rfl, B0.trans (hBV.mono B0.size)⟩
      | false =>
        have HH2 := Lib.hid h2
        clear h2
        rw [if_neg (by simp)]
        go_enter Try.func36, Try.ntmps36
        go_upto_region 1 with fail
        rw [HV.out]
        go_upto_region 6 with (first | (go_at_call 70; refine (refCheckBlend_any LA ln lc BA n bc o SA n sc BL _ hln hbn hn HLN.out HB.out (hA1.call hBV) HGG.out HL.out (hS1.call hBV)).mono ?_; rintro e xw ⟨rfl, hx⟩; rw [HCE.out]; replace hBV := hBV.trans (hx.mono hBV.size); clear l0 l1 l2 l3 lf' lz; obtain ⟨l0, l1, l2, l3, lf', lz⟩ := (HK1.out.call hBV).four) | (go_at_call 67; refine (refHolds_any LA ln lc BA n bc o SA sc BL true _ HLN.out HB.out (hA1.call hBV) HOK.out HL.out (hS1.call hBV) H6.out).mono ?_; rintro e xw ⟨rfl, hx⟩; rw [HH1.out]; replace hBV := hBV.trans (hx.mono hBV.size); clear l0 l1 l2 l3 lf' lz; obtain ⟨l0, l1, l2, l3, lf', lz⟩ := (HK1.out.call hBV).four) | fail)
        go_wp2_with (first | (go_at_call 67; refine (refHolds_any LA ln lc BA n bc o SA sc BL false _ HLN.out HB.out (hA1.call hBV) HOK.out HL.out (hS1.call hBV) H6.out).mono ?_; rintro e xw ⟨rfl, hx⟩; rw [HH2.out]; replace hBV := hBV.trans (hx.mono hBV.size); clear l0 l1 l2 l3 lf' lz; obtain ⟨l0, l1, l2, l3, lf', lz⟩ := (HK1.out.call hBV).four) | fail)
        refine bodyPost_ret (v := .tuple #[.int .i64 2, .int .i64 0]) (by simp [results, Try.results36, go_sem]) rfl ⟨rfl, B0.trans (hBV.mono B0.size)⟩
  · have d : (ce == 0) = false := by simp; exact hc
    rw [if_pos hc]
    clear hc
    go_enter Try.func36, Try.ntmps36
    go_upto_region 1 with fail
    rw [HV.out]
    go_wp2_with (first | (go_at_call 70; refine (refCheckBlend_any LA ln lc BA bn bc o SA n sc BL _ hln hbn hn HLN.out HB.out hA1 HGG.out HL.out hS1).mono ?_; rintro e w1 ⟨rfl, hb1⟩; rw [HCE.out]) | fail)
    refine bodyPost_ret (v := .tuple #[.int .i64 0, .int .i64 ce]) (by simp [results, Try.results36, go_sem]) rfl ⟨rfl, B0.trans (hb1.mono B0.size)⟩
end Go.Proofs.Ytmemcopfeabcgaa
