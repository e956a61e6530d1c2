/- hinders, helps, times, Plus, greatest, isLevel, aboard, verdictOf. -/
import Derived.Test.YtdlohfglmagneaaDoorAcM
set_option linter.unusedSimpArgs false
set_option linter.unusedVariables false
namespace Go.Proofs.YtdlohfglmagneaaDoor
open Go Go.RowKit
theorem hinders_any (b : Bool) (x y : Int) (w : World) : Calls Tryd.prog 45 #[.bool b, .agg #[.int .i64 x, .int .i64 y]] w fun e w' => e = .returned (.int .i64 (if b then x else y)) ∧ Below w.heap.size w w' := by
  cases b
  · go_enter Tryd.func45, Tryd.ntmps45
    go_wp2
    go_ret
    exact ⟨rfl, by repeat (first | exact Below.refl _ _ | refine Below.alloc ?_ (by simp) _)⟩
  · go_enter Tryd.func45, Tryd.ntmps45
    go_wp2
    go_ret
    exact ⟨rfl, by repeat (first | exact Below.refl _ _ | refine Below.alloc ?_ (by simp) _)⟩
theorem helps_any (b : Bool) (x y : Int) (w : World) : Calls Tryd.prog 52 #[.bool b, .agg #[.int .i64 x, .int .i64 y]] w fun e w' => e = .returned (.int .i64 (if b then y else x)) ∧ Below w.heap.size w w' := by
  cases b
  · go_enter Tryd.func52, Tryd.ntmps52
    go_wp2
    go_ret
    exact ⟨rfl, by repeat (first | exact Below.refl _ _ | refine Below.alloc ?_ (by simp) _)⟩
  · go_enter Tryd.func52, Tryd.ntmps52
    go_wp2
    go_ret
    exact ⟨rfl, by repeat (first | exact Below.refl _ _ | refine Below.alloc ?_ (by simp) _)⟩
theorem plus_any (a b c d : Int) (w : World) (h1 : -1000000000000 ≤ a) (h2 : a ≤ 1000000000000) (h3 : -1000000000000 ≤ b) (h4 : b ≤ 1000000000000) (h5 : -1000000000000 ≤ c) (h6 : c ≤ 1000000000000) (h7 : -1000000000000 ≤ d) (h8 : d ≤ 1000000000000) :
    Calls Tryd.prog 40 #[.agg #[.int .i64 a, .int .i64 b], .agg #[.int .i64 c, .int .i64 d]] w fun e w' => e = .returned (.agg #[.int .i64 (a + c), .int .i64 (b + d)]) ∧ Below w.heap.size w w' := by
  go_enter Tryd.func40, Tryd.ntmps40
  go_wp2
  refine bodyPost_ret (v := .agg #[.int .i64 (a + c), .int .i64 (b + d)]) (by simp [results, Tryd.results40, go_sem]) rfl ⟨rfl, ?_⟩
  repeat (first | exact Below.refl _ _ | refine Below.alloc ?_ (by simp; try omega) _ | refine Below.setCell ?_ (by simp) _ )
theorem tms_bd {x y n : Int} (h1 : 0 ≤ x) (h2 : x ≤ y) (h3 : y ≤ 5000) (h4 : -10000 ≤ n) (h5 : n ≤ 10000) : -50000000 ≤ x * n ∧ x * n ≤ 50000000 ∧ -50000000 ≤ y * n ∧ y * n ≤ 50000000 := by
  have key : ∀ z : Int, 0 ≤ z → z ≤ 5000 → -50000000 ≤ z * n ∧ z * n ≤ 50000000 := by
    intro z hz1 hz2
    have a := Int.mul_le_mul_of_nonneg_left h5 hz1
    have b := Int.mul_le_mul_of_nonneg_left h4 hz1
    omega
  exact ⟨(key x h1 (by omega)).1, (key x h1 (by omega)).2, (key y (by omega) h3).1, (key y (by omega) h3).2⟩
theorem times_any (x y n : Int) (w : World) (h1 : 0 ≤ x) (h2 : x ≤ y) (h3 : y ≤ 5000) (h4 : -10000 ≤ n) (h5 : n ≤ 10000) :
    Calls Tryd.prog 41 #[.agg #[.int .i64 x, .int .i64 y], .int .i64 n] w fun e w' => e = .returned (.agg #[.int .i64 (tms x y n).1, .int .i64 (tms x y n).2]) ∧ Below w.heap.size w w' := by
  obtain ⟨b1, b2, b3, b4⟩ := tms_bd h1 h2 h3 h4 h5
  have wx : IntKind.i64.wrap (x * n) = x * n := IntWalk.i64_in _ (by omega)
  have wy : IntKind.i64.wrap (y * n) = y * n := IntWalk.i64_in _ (by omega)
  by_cases hn : n < 0
  · have HT : Hid (tms x y n = (y * n, x * n)) := Lib.hid (by unfold tms; rw [if_pos hn])
    rw [HT.out]
    have hd : decide (n < 0) = true := by simpa using hn
    clear hn
    go_enter Tryd.func41, Tryd.ntmps41
    go_wp2
    refine bodyPost_ret (v := .agg #[.int .i64 (y * n), .int .i64 (x * n)]) (by simp [results, Tryd.results41, go_sem]) rfl ⟨rfl, ?_⟩
    repeat (first | exact Below.refl _ _ | refine Below.alloc ?_ (by simp; try omega) _ | refine Below.setCell ?_ (by simp) _ )
  · have HT : Hid (tms x y n = (x * n, y * n)) := Lib.hid (by unfold tms; rw [if_neg hn])
    rw [HT.out]
    have hd : decide (n < 0) = false := by simpa using hn
    clear hn
    go_enter Tryd.func41, Tryd.ntmps41
    go_wp2
    refine bodyPost_ret (v := .agg #[.int .i64 (x * n), .int .i64 (y * n)]) (by simp [results, Tryd.results41, go_sem]) rfl ⟨rfl, ?_⟩
    repeat (first | exact Below.refl _ _ | refine Below.alloc ?_ (by simp; try omega) _ | refine Below.setCell ?_ (by simp) _ )
theorem greatest_any (x y : Int) (b c : Nat) (t : TypeId) (w : World) (h : Bx w b t #[.int .i64 y]) : Calls Tryd.prog 42 #[.int .i64 x, .slice (some ⟨b, 0, none⟩) 1 c] w fun e w' => e = .returned (.int .i64 (max x y)) ∧ Below w.heap.size w w' := by
  obtain ⟨c0, cf, cz⟩ := h.one
  go_enter Tryd.func42, Tryd.ntmps42
  go_wp2_with fail
  go_loopw [0, 9] (fun f i wr => ∃ k : Nat, i = .int .i64 k ∧ k ≤ 1 ∧ f = .int .i64 (if k = 0 then x else max x y) ∧ wr = w) (fun _ i _ => 1 - (intOf i).toNat)
  case atStart => exact ⟨0, rfl, by omega, rfl, by simp⟩
  case round =>
    obtain ⟨k, rfl, hk, rfl, rfl⟩ := hrel
    by_cases hk0 : k = 0
    · subst hk0
      go_wp2_with fail
      go_roundw
      case rel => exact ⟨1, by go_num, by omega, by first | rfl | (simp; done) | (simp; omega), by first | trivial | rfl⟩
      case measure => simp [intOf]
    · obtain rfl : k = 1 := by omega
      go_wp2_with fail
      go_ret
      exact ⟨by simp, Below.refl _ _⟩
theorem verdictOf_any (n a b : Nat) (w : World) : Calls Tryd.prog 26 #[.int .i64 n, .int .i64 a, .int .i64 b] w fun e w' => e = .returned (.int .i64 (verdM n a b)) ∧ Below w.heap.size w w' := by
  unfold verdM
  by_cases h1 : b = n
  · have e1 : ((b : Int) == (n : Int)) = true := by simp; omega
    rw [if_pos h1]
    clear h1
    go_enter Tryd.func26, Tryd.ntmps26
    go_wp2
    go_ret
    exact ⟨rfl, Below.refl _ _⟩
  · have e1 : ((b : Int) == (n : Int)) = false := by simp; omega
    rw [if_neg h1]
    clear h1
    by_cases h2 : a < n
    · have e2 : decide ((a : Int) < (n : Int)) = true := by simp; omega
      rw [if_pos h2]
      go_enter Tryd.func26, Tryd.ntmps26
      go_wp2
      go_ret
      exact ⟨rfl, Below.refl _ _⟩
    · have e2 : decide ((a : Int) < (n : Int)) = false := by simp; omega
      rw [if_neg h2]
      go_enter Tryd.func26, Tryd.ntmps26
      go_wp2
      go_ret
      exact ⟨rfl, Below.refl _ _⟩
theorem aboard_any (v : Vg) (p : Vp) (A : Option Addr) (sn sc : Nat) (w : World) : Calls Tryd.prog 39 #[.agg (vcs v p), .slice A sn sc] w fun e w' => (∃ gs gv : Nat, e = .returned (.func (.func 51) #[] #[.pointer (some ⟨gs, 0, none⟩), .pointer (some ⟨gv, 0, none⟩)]) ∧ Bx w' gs 39 #[.slice A sn sc] ∧ Bx w' gv 26 (vcs v p) ∧ w.heap.size ≤ gs ∧ w.heap.size ≤ gv) ∧ Below w.heap.size w w' := by
  have k1 := (Bx.new w 26 (vcs v p)).alloc (.cells #[.slice A sn sc] 39)
  have k2 := Bx.at (w.alloc (.cells (vcs v p) 26)) 39 #[.slice A sn sc] (n := w.heap.size + 1) (by simp)
  have B0 := ((Below.refl w.heap.size w).alloc (Nat.le_refl _) (.cells (vcs v p) 26)).alloc (by simp) (.cells #[.slice A sn sc] 39)
  rw [vcs_def] at k1 k2 B0 ⊢
  go_enter Tryd.func39, Tryd.ntmps39
  go_wp2
  go_ret
  exact ⟨⟨w.heap.size + 1, w.heap.size, by simp, k2, k1, by omega, by omega⟩, B0⟩
set_option maxRecDepth 100000 in
set_option maxHeartbeats 1000000 in
theorem isLevel_any (v : Vg) (p : Vp) (a : Int × Int) (w : World) (h1 : -1000000000 ≤ a.1) (h2 : a.1 ≤ 1000000000) (ht : 0 ≤ v.tr ∧ v.tr ≤ 5000) : Calls Tryd.prog 23 #[.agg (vcs v p), .agg #[.int .i64 a.1, .int .i64 a.2]] w fun e w' => e = .returned (.bool (lvlOk v a)) ∧ Below w.heap.size w w' := by
  have k1 := (Bx.new w 26 (vcs v p)).alloc (.cells #[.int .i64 a.1, .int .i64 a.2] 29)
  have k2 := Bx.at (w.alloc (.cells (vcs v p) 26)) 29 #[.int .i64 a.1, .int .i64 a.2] (n := w.heap.size + 1) (by simp)
  have B0 := ((Below.refl w.heap.size w).alloc (Nat.le_refl _) (.cells (vcs v p) 26)).alloc (by simp) (.cells #[.int .i64 a.1, .int .i64 a.2] 29)
  have wa : IntKind.i64.wrap (-a.1) = -a.1 := IntWalk.i64_in _ (by omega)
  have wt : IntKind.i64.wrap (1000 * v.tr) = 1000 * v.tr := IntWalk.i64_in _ (by omega)
  rw [vcs_def] at k1 k2 B0 ⊢
  obtain ⟨V, hV⟩ : ∃ V, (w.alloc (.cells #[.int .i64 v.li, .int .i64 v.un, .int .i64 v.tr, .slice p.HA p.hn p.hc, .int .i64 v.le, .slice p.SA p.sn p.sc, .slice p.LA p.ln p.lc] 26)).alloc (.cells #[.int .i64 a.1, .int .i64 a.2] 29) = V := ⟨_, rfl⟩
  rw [hV] at k1 k2 B0
  have HV := Lib.hid hV
  clear hV
  obtain ⟨hq, hhq⟩ : ∃ q, lvlOk v a = q := ⟨_, rfl⟩
  have HQ := Lib.hid hhq
  rw [hhq]
  clear hhq
  go_enter Tryd.func23, Tryd.ntmps23
  go_wp2_with fail
  rw [HV.out]
  refine AnyG.startC (by kernel_rfl) ?_
  refine AnyG.takeP (i := 0) (v := ?_) rfl (by kernel_rfl) (fun _ _ _ h => h) rfl ?_ ?_
  rotate_left
  · (intro w'; go_simp; try with_reducible rfl)
  try simp only [Act.put, List.getElem_toArray, List.getElem_cons_succ, List.getElem_cons_zero, List.setIfInBounds_toArray, List.set_cons_zero, List.set_cons_succ]
  refine AnyG.takeP (i := 2) (v := ?_) rfl (by kernel_rfl) (fun _ _ _ h => h) rfl ?_ ?_
  rotate_left
  · (intro w'; go_simp; try with_reducible rfl)
  try simp only [Act.put, List.getElem_toArray, List.getElem_cons_succ, List.getElem_cons_zero, List.setIfInBounds_toArray, List.set_cons_zero, List.set_cons_succ]
  refine AnyG.takeP (i := 7) (v := ?_) rfl (by kernel_rfl) (fun _ _ _ h => h) rfl ?_ ?_
  rotate_left
  · (intro w'; go_simp; try with_reducible rfl)
  try simp only [Act.put, List.getElem_toArray, List.getElem_cons_succ, List.getElem_cons_zero, List.setIfInBounds_toArray, List.set_cons_zero, List.set_cons_succ]
  refine AnyG.enter (fun w' : World => Bx w' w.heap.size 26 #[.int .i64 v.li, .int .i64 v.un, .int .i64 v.tr, .slice p.HA p.hn p.hc, .int .i64 v.le, .slice p.SA p.sn p.sc, .slice p.LA p.ln p.lc] ∧ Bx w' (w.heap.size + 1) 29 #[.int .i64 a.1, .int .i64 a.2] ∧ Below w.heap.size w w') (fun i => true) ?_
  have hS : (fun w' : World => Bx w' w.heap.size 26 #[.int .i64 v.li, .int .i64 v.un, .int .i64 v.tr, .slice p.HA p.hn p.hc, .int .i64 v.le, .slice p.SA p.sn p.sc, .slice p.LA p.ln p.lc] ∧ Bx w' (w.heap.size + 1) 29 #[.int .i64 a.1, .int .i64 a.2] ∧ Below w.heap.size w w') (World.drew _) := ⟨k1.drew, k2.drew, B0.drew⟩
  refine AnyG.takeC (i := 1) (v := ?_) rfl (by kernel_rfl) (fun _ _ _ h => h) rfl ?_ hS ?_
  rotate_left
  · (intro w' hSw; (try dsimp only at hSw); obtain ⟨z0, z1, zf, zz⟩ := hSw.2.1.two; go_simp; try with_reducible rfl)
  try simp only [Act.put, List.getElem_toArray, List.getElem_cons_succ, List.getElem_cons_zero, List.setIfInBounds_toArray, List.set_cons_zero, List.set_cons_succ]
  refine AnyG.takeC (i := 3) (v := ?_) rfl (by kernel_rfl) (fun _ _ _ h => h) rfl ?_ hS ?_
  rotate_left
  · (intro w' hSw; (try dsimp only at hSw); obtain ⟨z0, z1, zf, zz⟩ := hSw.2.1.two; go_simp; try with_reducible rfl)
  try simp only [Act.put, List.getElem_toArray, List.getElem_cons_succ, List.getElem_cons_zero, List.setIfInBounds_toArray, List.set_cons_zero, List.set_cons_succ]
  refine AnyG.takeC (i := 4) (v := ?_) rfl (by kernel_rfl) (fun _ _ _ h => h) rfl ?_ hS ?_
  rotate_left
  · (intro w' hSw; (try dsimp only at hSw); go_simp; try with_reducible rfl)
  try simp only [Act.put, List.getElem_toArray, List.getElem_cons_succ, List.getElem_cons_zero, List.setIfInBounds_toArray, List.set_cons_zero, List.set_cons_succ]
  refine AnyG.takeC (i := 8) (v := ?_) rfl (by kernel_rfl) (fun _ _ _ h => h) rfl ?_ hS ?_
  rotate_left
  · (intro w' hSw; (try dsimp only at hSw); obtain ⟨x0, x1, x2, x3, x4, x5, x6, xf, xz⟩ := hSw.1.seven; go_simp; try with_reducible rfl)
  try simp only [Act.put, List.getElem_toArray, List.getElem_cons_succ, List.getElem_cons_zero, List.setIfInBounds_toArray, List.set_cons_zero, List.set_cons_succ]
  refine AnyG.takeC (i := 9) (v := ?_) rfl (by kernel_rfl) (fun _ _ _ h => h) rfl ?_ hS ?_
  rotate_left
  · (intro w' hSw; (try dsimp only at hSw); go_simp; try with_reducible rfl)
  try simp only [Act.put, List.getElem_toArray, List.getElem_cons_succ, List.getElem_cons_zero, List.setIfInBounds_toArray, List.set_cons_zero, List.set_cons_succ]
  refine AnyG.one (i := 5) (by kernel_rfl) rfl rfl ?_
  have kb := Bx.new V.drew 3 #[.int .i64 (-a.1)]
  go_simp
  refine Onward.on ⟨hS.1.alloc _, hS.2.1.alloc _, hS.2.2.alloc hS.2.2.size _⟩ (fun hS2 => ?_)
  clear hS
  have hS := hS2
  clear hS2
  try simp only [Act.put, List.getElem_toArray, List.getElem_cons_succ, List.getElem_cons_zero, List.setIfInBounds_toArray, List.set_cons_zero, List.set_cons_succ]
  refine AnyG.one (i := 6) (by kernel_rfl) rfl rfl ?_
  go_simp
  refine (greatest_any a.2 (-a.1) _ _ _ _ kb).mono ?_
  rintro e6 y6 ⟨rfl, hb6⟩
  refine Onward.on ⟨hS.1.call hb6, hS.2.1.call hb6, hS.2.2.trans (hb6.mono hS.2.2.size)⟩ (fun hS2 => ?_)
  clear hS
  have hS := hS2
  clear hS2
  try simp only [Act.put, List.getElem_toArray, List.getElem_cons_succ, List.getElem_cons_zero, List.setIfInBounds_toArray, List.set_cons_zero, List.set_cons_succ]
  refine AnyG.takeC (i := 10) (v := ?_) rfl (by kernel_rfl) (fun _ _ _ h => h) rfl ?_ hS ?_
  rotate_left
  · (intro w' hSw; (try dsimp only at hSw); go_simp; try with_reducible rfl)
  try simp only [Act.put, List.getElem_toArray, List.getElem_cons_succ, List.getElem_cons_zero, List.setIfInBounds_toArray, List.set_cons_zero, List.set_cons_succ]
  refine AnyG.takeC (i := 11) (v := ?_) rfl (by kernel_rfl) (fun _ _ _ h => h) rfl ?_ hS ?_
  rotate_left
  · (intro w' hSw; (try dsimp only at hSw); go_simp; try with_reducible rfl)
  try simp only [Act.put, List.getElem_toArray, List.getElem_cons_succ, List.getElem_cons_zero, List.setIfInBounds_toArray, List.set_cons_zero, List.set_cons_succ]
  refine AnyG.done (by kernel_rfl) ?_ _
  go_simp
  go_wp2_with fail
  go_ret
  exact ⟨ret_bool (by rw [← HQ.out]; rfl), hS.2.2⟩
end Go.Proofs.YtdlohfglmagneaaDoor

/-! The errors of voyages: checkBarge, checkHolds, checkLevels, checkSills, checkLots, Check. -/
namespace Go.Proofs.YtdlohfglmagneaaDoor
open Go Go.RowKit
set_option maxHeartbeats 800000 in
theorem checkBarge_any (v : Vg) (p : Vp) (w : World) : Calls Tryd.prog 16 #[.agg (vcs v p)] w fun e w' => e = .returned (.int .i64 (ckBg v)) ∧ Below w.heap.size w w' := by
  have k0 := Bx.new w 26 (vcs v p)
  have B0 := (Below.refl w.heap.size w).alloc (Nat.le_refl _) (.cells (vcs v p) 26)
  rw [vcs_def] at k0 B0 ⊢
  by_cases hA : 0 ≤ v.li ∧ v.li ≤ 5000
  · by_cases hB : 0 ≤ v.un ∧ v.un ≤ 5000
    · by_cases hC : 0 ≤ v.tr ∧ v.tr ≤ 5000
      · have HR : Hid (ckBg v = 0) := Lib.hid (by unfold ckBg; rw [if_pos (by omega)])
        go_enter Tryd.func16, Tryd.ntmps16
        go_wp2_with (first
            | (go_at_call 18; have _t := hb_2; clear _t; refine (isWithin_yes _ _ _ _ hC).mono ?_; rintro e_3 w_3 ⟨rfl, hb_3⟩; have k_3 := k_2.call hb_3; have B_3 := B_2.trans (hb_3.mono B_2.size); obtain ⟨c0_3, c1_3, c2_3, c3_3, c4_3, c5_3, c6_3, cf_3, cz_3⟩ := k_3.seven)
            | (go_at_call 18; have _t := hb_1; clear _t; refine (isWithin_yes _ _ _ _ hB).mono ?_; rintro e_2 w_2 ⟨rfl, hb_2⟩; have k_2 := k_1.call hb_2; have B_2 := B_1.trans (hb_2.mono B_1.size); obtain ⟨c0_2, c1_2, c2_2, c3_2, c4_2, c5_2, c6_2, cf_2, cz_2⟩ := k_2.seven)
            | (go_at_call 18; refine (isWithin_yes _ _ _ _ hA).mono ?_; rintro e_1 w_1 ⟨rfl, hb_1⟩; have k_1 := k0.call hb_1; have B_1 := B0.trans (hb_1.mono B0.size); obtain ⟨c0_1, c1_1, c2_1, c3_1, c4_1, c5_1, c6_1, cf_1, cz_1⟩ := k_1.seven)
            | fail)
        go_ret
        exact ⟨ret_int HR.out.symm, B_3⟩
      · have HR : Hid (ckBg v = 1) := Lib.hid (by unfold ckBg; rw [if_neg (by omega)])
        go_enter Tryd.func16, Tryd.ntmps16
        go_wp2_with (first
            | (go_at_call 18; have _t := hb_2; clear _t; refine (isWithin_no _ _ _ _ hC).mono ?_; rintro e_3 w_3 ⟨rfl, hb_3⟩; have k_3 := k_2.call hb_3; have B_3 := B_2.trans (hb_3.mono B_2.size); obtain ⟨c0_3, c1_3, c2_3, c3_3, c4_3, c5_3, c6_3, cf_3, cz_3⟩ := k_3.seven)
            | (go_at_call 18; have _t := hb_1; clear _t; refine (isWithin_yes _ _ _ _ hB).mono ?_; rintro e_2 w_2 ⟨rfl, hb_2⟩; have k_2 := k_1.call hb_2; have B_2 := B_1.trans (hb_2.mono B_1.size); obtain ⟨c0_2, c1_2, c2_2, c3_2, c4_2, c5_2, c6_2, cf_2, cz_2⟩ := k_2.seven)
            | (go_at_call 18; refine (isWithin_yes _ _ _ _ hA).mono ?_; rintro e_1 w_1 ⟨rfl, hb_1⟩; have k_1 := k0.call hb_1; have B_1 := B0.trans (hb_1.mono B0.size); obtain ⟨c0_1, c1_1, c2_1, c3_1, c4_1, c5_1, c6_1, cf_1, cz_1⟩ := k_1.seven)
            | fail)
        go_ret
        exact ⟨ret_int HR.out.symm, B_3⟩
    · have HR : Hid (ckBg v = 1) := Lib.hid (by unfold ckBg; rw [if_neg (by omega)])
      go_enter Tryd.func16, Tryd.ntmps16
      go_wp2_with (first
          | (go_at_call 18; have _t := hb_1; clear _t; refine (isWithin_no _ _ _ _ hB).mono ?_; rintro e_2 w_2 ⟨rfl, hb_2⟩; have k_2 := k_1.call hb_2; have B_2 := B_1.trans (hb_2.mono B_1.size); obtain ⟨c0_2, c1_2, c2_2, c3_2, c4_2, c5_2, c6_2, cf_2, cz_2⟩ := k_2.seven)
          | (go_at_call 18; refine (isWithin_yes _ _ _ _ hA).mono ?_; rintro e_1 w_1 ⟨rfl, hb_1⟩; have k_1 := k0.call hb_1; have B_1 := B0.trans (hb_1.mono B0.size); obtain ⟨c0_1, c1_1, c2_1, c3_1, c4_1, c5_1, c6_1, cf_1, cz_1⟩ := k_1.seven)
          | fail)
      go_ret
      exact ⟨ret_int HR.out.symm, B_2⟩
  · have HR : Hid (ckBg v = 1) := Lib.hid (by unfold ckBg; rw [if_neg (by omega)])
    go_enter Tryd.func16, Tryd.ntmps16
    go_wp2_with (first
        | (go_at_call 18; refine (isWithin_no _ _ _ _ hA).mono ?_; rintro e_1 w_1 ⟨rfl, hb_1⟩; have k_1 := k0.call hb_1; have B_1 := B0.trans (hb_1.mono B0.size); obtain ⟨c0_1, c1_1, c2_1, c3_1, c4_1, c5_1, c6_1, cf_1, cz_1⟩ := k_1.seven)
        | fail)
    go_ret
    exact ⟨ret_int HR.out.symm, B_1⟩
theorem ckHds_step {L : List Hd} {k : Nat} (hk : k < L.length) : ckHds (L.drop k) = if ckHd L[k] ≠ 0 then ckHd L[k] else ckHds (L.drop (k + 1)) := by
  rw [List.drop_eq_getElem_cons hk, ckHds]
theorem ckSis_step {L : List Si} {k : Nat} (hk : k < L.length) : ckSis (L.drop k) = if ckSi L[k] ≠ 0 then ckSi L[k] else ckSis (L.drop (k + 1)) := by
  rw [List.drop_eq_getElem_cons hk, ckSis]
theorem ckCgs_step {L : List Cg} {k : Nat} (hk : k < L.length) : ckCgs (L.drop k) = if ckCg L[k] ≠ 0 then ckCg L[k] else ckCgs (L.drop (k + 1)) := by
  rw [List.drop_eq_getElem_cons hk, ckCgs]
/-- A count that is within its bounds, or not. -/
theorem count_ok (n : Nat) (lo hi : Int) (w : World) (h : lo ≤ n ∧ (n : Int) ≤ hi) : Calls Tryd.prog 36 #[.int .i64 n, .int .i64 lo, .int .i64 hi] w fun e w' => e = .returned (.int .i64 0) ∧ Below w.heap.size w w' :=
  (count_any n lo hi w).mono (by rintro e w' ⟨rfl, hb⟩; rw [if_neg (by omega), if_neg (by omega)]; exact ⟨rfl, hb⟩)
theorem count_few (n : Nat) (lo hi : Int) (w : World) (h : (n : Int) < lo) : Calls Tryd.prog 36 #[.int .i64 n, .int .i64 lo, .int .i64 hi] w fun e w' => e = .returned (.int .i64 7) ∧ Below w.heap.size w w' :=
  (count_any n lo hi w).mono (by rintro e w' ⟨rfl, hb⟩; rw [if_pos (by omega)]; exact ⟨rfl, hb⟩)
theorem count_many (n : Nat) (lo hi : Int) (w : World) (h : lo ≤ n ∧ hi < (n : Int)) : Calls Tryd.prog 36 #[.int .i64 n, .int .i64 lo, .int .i64 hi] w fun e w' => e = .returned (.int .i64 6) ∧ Below w.heap.size w w' :=
  (count_any n lo hi w).mono (by rintro e w' ⟨rfl, hb⟩; rw [if_neg (by omega), if_pos (by omega)]; exact ⟨rfl, hb⟩)
set_option maxHeartbeats 800000 in
theorem checkHolds_any (A : Option Addr) (n c : Nat) (L : List Hd) (w : World) (hn : n ≤ 9223372036854775807) (hl : L.length = n) (hA : Sl w w.heap.size 3 A (L.map hdr)) :
    Calls Tryd.prog 17 #[.slice A n c] w fun e w' => e = .returned (.int .i64 (ckHs L)) ∧ Below w.heap.size w w' := by
  have HL := Lib.hid hl
  clear hl
  by_cases h7 : n < 1
  · have HR : Hid (ckHs L = 7) := Lib.hid (by unfold ckHs; rw [if_pos (by rw [HL.out]; exact h7)])
    go_enter Tryd.func17, Tryd.ntmps17
    go_wp2_with (go_at_call 36; refine (count_few _ _ _ _ (by omega)).mono ?_; rintro e w1 ⟨rfl, hb⟩)
    go_ret
    exact ⟨ret_int HR.out.symm, hb⟩
  by_cases h6 : 3 < n
  · have HR : Hid (ckHs L = 6) := Lib.hid (by unfold ckHs; rw [if_neg (by rw [HL.out]; omega)]; rw [if_pos (by rw [HL.out]; exact h6)])
    go_enter Tryd.func17, Tryd.ntmps17
    go_wp2_with (go_at_call 36; refine (count_many _ _ _ _ (by omega)).mono ?_; rintro e w1 ⟨rfl, hb⟩)
    go_ret
    exact ⟨ret_int HR.out.symm, hb⟩
  have HR0 : Hid (ckHs L = ckHds L) := Lib.hid (by unfold ckHs; rw [if_neg (by rw [HL.out]; omega)]; rw [if_neg (by rw [HL.out]; omega)])
  go_enter Tryd.func17, Tryd.ntmps17
  go_wp2_with (go_at_call 36; refine (count_ok _ _ _ _ (by omega)).mono ?_; rintro e w1 ⟨rfl, hb⟩)
  go_loopw [15] (fun i wr => ∃ k : Nat, k ≤ n ∧ i = .int .i64 k ∧ Hid (ckHds L = ckHds (L.drop k)) ∧ Below w.heap.size w wr) (fun i _ => n - (intOf i).toNat)
  case atStart => exact ⟨0, by omega, rfl, rfl, hb⟩
  case round =>
    clear hb
    obtain ⟨k, hk, rfl, hd, hB⟩ := hrel
    by_cases hkn : k < n
    · have hke : k < L.length := by rw [HL.out]; exact hkn
      obtain ⟨ad, rfl, _, q0, q1, q2⟩ := hd_at ((hA.below hB).more hB.size) hke
      have hds := ckHds_step hke
      generalize L[k] = b at *
      have k0 := Bx.new wr 51 #[.int .i64 b.rm, .int .i64 b.bw, .int .i64 b.st]
      have B0 := hB.alloc hB.size (.cells #[.int .i64 b.rm, .int .i64 b.bw, .int .i64 b.st] 51)
      clear hA hB
      by_cases h1 : 0 ≤ b.bw ∧ b.bw ≤ 10000
      · by_cases h2 : 0 ≤ b.st ∧ b.st ≤ 10000
        · by_cases h3 : 0 ≤ b.rm ∧ b.rm ≤ 5000
          · have hd' : Hid (ckHds L = ckHds (L.drop (k + 1))) := Lib.hid (by rw [hd.out, hds, show ckHd b = 0 by unfold ckHd; rw [if_pos (by omega)]]; simp)
            clear hds
            go_wp2_with (first
                | (go_at_call 18; have _t := hb_2; clear _t; refine (isWithin_yes _ _ _ _ h3).mono ?_; rintro e_3 w_3 ⟨rfl, hb_3⟩; have k_3 := k_2.call hb_3; have B_3 := B_2.trans (hb_3.mono B_2.size); obtain ⟨c0_3, c1_3, c2_3, cf_3, cz_3⟩ := k_3.three')
                | (go_at_call 18; have _t := hb_1; clear _t; refine (isWithin_yes _ _ _ _ h2).mono ?_; rintro e_2 w_2 ⟨rfl, hb_2⟩; have k_2 := k_1.call hb_2; have B_2 := B_1.trans (hb_2.mono B_1.size); obtain ⟨c0_2, c1_2, c2_2, cf_2, cz_2⟩ := k_2.three')
                | (go_at_call 18; refine (isWithin_yes _ _ _ _ h1).mono ?_; rintro e_1 w_1 ⟨rfl, hb_1⟩; have k_1 := k0.call hb_1; have B_1 := B0.trans (hb_1.mono B0.size); obtain ⟨c0_1, c1_1, c2_1, cf_1, cz_1⟩ := k_1.three')
                | fail)
            go_roundw
            case rel => exact ⟨k + 1, by omega, by go_num, hd', B_3⟩
            case measure => simp [intOf]; omega
          · have hd' : Hid (ckHds L = 1) := Lib.hid (by rw [hd.out, hds, show ckHd b = 1 by unfold ckHd; rw [if_neg (by omega)]]; simp)
            clear hds
            go_wp2_with (first
                | (go_at_call 18; have _t := hb_2; clear _t; refine (isWithin_no _ _ _ _ h3).mono ?_; rintro e_3 w_3 ⟨rfl, hb_3⟩; have k_3 := k_2.call hb_3; have B_3 := B_2.trans (hb_3.mono B_2.size); obtain ⟨c0_3, c1_3, c2_3, cf_3, cz_3⟩ := k_3.three')
                | (go_at_call 18; have _t := hb_1; clear _t; refine (isWithin_yes _ _ _ _ h2).mono ?_; rintro e_2 w_2 ⟨rfl, hb_2⟩; have k_2 := k_1.call hb_2; have B_2 := B_1.trans (hb_2.mono B_1.size); obtain ⟨c0_2, c1_2, c2_2, cf_2, cz_2⟩ := k_2.three')
                | (go_at_call 18; refine (isWithin_yes _ _ _ _ h1).mono ?_; rintro e_1 w_1 ⟨rfl, hb_1⟩; have k_1 := k0.call hb_1; have B_1 := B0.trans (hb_1.mono B0.size); obtain ⟨c0_1, c1_1, c2_1, cf_1, cz_1⟩ := k_1.three')
                | fail)
            go_ret
            exact ⟨ret_int (HR0.out.trans hd'.out).symm, B_3⟩
        · have hd' : Hid (ckHds L = 1) := Lib.hid (by rw [hd.out, hds, show ckHd b = 1 by unfold ckHd; rw [if_neg (by omega)]]; simp)
          clear hds
          go_wp2_with (first
              | (go_at_call 18; have _t := hb_1; clear _t; refine (isWithin_no _ _ _ _ h2).mono ?_; rintro e_2 w_2 ⟨rfl, hb_2⟩; have k_2 := k_1.call hb_2; have B_2 := B_1.trans (hb_2.mono B_1.size); obtain ⟨c0_2, c1_2, c2_2, cf_2, cz_2⟩ := k_2.three')
              | (go_at_call 18; refine (isWithin_yes _ _ _ _ h1).mono ?_; rintro e_1 w_1 ⟨rfl, hb_1⟩; have k_1 := k0.call hb_1; have B_1 := B0.trans (hb_1.mono B0.size); obtain ⟨c0_1, c1_1, c2_1, cf_1, cz_1⟩ := k_1.three')
              | fail)
          go_ret
          exact ⟨ret_int (HR0.out.trans hd'.out).symm, B_2⟩
      · have hd' : Hid (ckHds L = 1) := Lib.hid (by rw [hd.out, hds, show ckHd b = 1 by unfold ckHd; rw [if_neg (by omega)]]; simp)
        clear hds
        go_wp2_with (first
            | (go_at_call 18; refine (isWithin_no _ _ _ _ h1).mono ?_; rintro e_1 w_1 ⟨rfl, hb_1⟩; have k_1 := k0.call hb_1; have B_1 := B0.trans (hb_1.mono B0.size); obtain ⟨c0_1, c1_1, c2_1, cf_1, cz_1⟩ := k_1.three')
            | fail)
        go_ret
        exact ⟨ret_int (HR0.out.trans hd'.out).symm, B_1⟩
    · have hd' : Hid (ckHds L = 0) := by unfold Hid; rw [hd.out, List.drop_eq_nil_of_le (by rw [HL.out]; omega)]; rfl
      go_wp2_with fail
      go_ret
      exact ⟨ret_int (HR0.out.trans hd'.out).symm, hB⟩
set_option maxHeartbeats 800000 in
theorem checkLots_any (A : Option Addr) (n c : Nat) (L : List Cg) (w : World) (hn : n ≤ 9223372036854775807) (hl : L.length = n) (hA : Sl w w.heap.size 3 A (L.map cgr)) :
    Calls Tryd.prog 20 #[.slice A n c] w fun e w' => e = .returned (.int .i64 (ckCs L)) ∧ Below w.heap.size w w' := by
  have HL := Lib.hid hl
  clear hl
  by_cases h6 : 6 < n
  · have HR : Hid (ckCs L = 6) := Lib.hid (by unfold ckCs; rw [if_pos (by rw [HL.out]; exact h6)])
    go_enter Tryd.func20, Tryd.ntmps20
    go_wp2_with (go_at_call 36; refine (count_many _ _ _ _ (by omega)).mono ?_; rintro e w1 ⟨rfl, hb⟩)
    go_ret
    exact ⟨ret_int HR.out.symm, hb⟩
  have HR0 : Hid (ckCs L = ckCgs L) := Lib.hid (by unfold ckCs; rw [if_neg (by rw [HL.out]; omega)])
  go_enter Tryd.func20, Tryd.ntmps20
  go_wp2_with (go_at_call 36; refine (count_ok _ _ _ _ (by omega)).mono ?_; rintro e w1 ⟨rfl, hb⟩)
  go_loopw [15] (fun i wr => ∃ k : Nat, k ≤ n ∧ i = .int .i64 k ∧ Hid (ckCgs L = ckCgs (L.drop k)) ∧ Below w.heap.size w wr) (fun i _ => n - (intOf i).toNat)
  case atStart => exact ⟨0, by omega, rfl, rfl, hb⟩
  case round =>
    clear hb
    obtain ⟨k, hk, rfl, hd, hB⟩ := hrel
    by_cases hkn : k < n
    · have hke : k < L.length := by rw [HL.out]; exact hkn
      obtain ⟨ad, rfl, _, q0, q1, q2⟩ := cg_at ((hA.below hB).more hB.size) hke
      have hds := ckCgs_step hke
      generalize L[k] = b at *
      have k0 := Bx.new wr 53 #[.int .i64 b.t0, .int .i64 b.t1, .int .i64 b.wo]
      have B0 := hB.alloc hB.size (.cells #[.int .i64 b.t0, .int .i64 b.t1, .int .i64 b.wo] 53)
      clear hA hB
      obtain ⟨R, hR⟩ : ∃ R, ckR b.t0 b.t1 0 5000 = R := ⟨_, rfl⟩
      by_cases hz : R = 0
      · subst hz
        by_cases h3 : 0 ≤ b.wo ∧ b.wo ≤ 100000
        · have hd' : Hid (ckCgs L = ckCgs (L.drop (k + 1))) := Lib.hid (by rw [hd.out, hds, show ckCg b = 0 by unfold ckCg; rw [hR, if_neg (by simp), if_neg (by omega)]]; simp)
          have HRR := Lib.hid hR
          clear hds hR
          go_wp2_with (first
              | (go_at_call 18; have _t := hb_1; clear _t; refine (isWithin_yes _ _ _ _ h3).mono ?_; rintro e_2 w_2 ⟨rfl, hb_2⟩; have k_2 := k_1.call hb_2; have B_2 := B_1.trans (hb_2.mono B_1.size); obtain ⟨c0_2, c1_2, c2_2, cf_2, cz_2⟩ := k_2.three')
              | (go_at_call 37; refine (spanCheck_any _ _ _ _ _).mono ?_; rintro e_1 w_1 ⟨rfl, hb_1⟩; rw [HRR.out]; have k_1 := k0.call hb_1; have B_1 := B0.trans (hb_1.mono B0.size); obtain ⟨c0_1, c1_1, c2_1, cf_1, cz_1⟩ := k_1.three')
              | fail)
          go_roundw
          case rel => exact ⟨k + 1, by omega, by go_num, hd', B_2⟩
          case measure => simp [intOf]; omega
        · have hd' : Hid (ckCgs L = 1) := Lib.hid (by rw [hd.out, hds, show ckCg b = 1 by unfold ckCg; rw [hR, if_neg (by simp), if_pos (by omega)]]; simp)
          have HRR := Lib.hid hR
          clear hds hR
          go_wp2_with (first
              | (go_at_call 18; have _t := hb_1; clear _t; refine (isWithin_no _ _ _ _ h3).mono ?_; rintro e_2 w_2 ⟨rfl, hb_2⟩; have k_2 := k_1.call hb_2; have B_2 := B_1.trans (hb_2.mono B_1.size); obtain ⟨c0_2, c1_2, c2_2, cf_2, cz_2⟩ := k_2.three')
              | (go_at_call 37; refine (spanCheck_any _ _ _ _ _).mono ?_; rintro e_1 w_1 ⟨rfl, hb_1⟩; rw [HRR.out]; have k_1 := k0.call hb_1; have B_1 := B0.trans (hb_1.mono B0.size); obtain ⟨c0_1, c1_1, c2_1, cf_1, cz_1⟩ := k_1.three')
              | fail)
          go_ret
          exact ⟨ret_int (HR0.out.trans hd'.out).symm, B_2⟩
      · have hz1 : (R != 0) = true := by simpa using hz
        have hd' : Hid (ckCgs L = R) := Lib.hid (by rw [hd.out, hds, show ckCg b = R by unfold ckCg; rw [hR, if_pos hz], if_pos hz])
        have HRR := Lib.hid hR
        clear hds hR
        go_wp2_with (first
            | (go_at_call 37; refine (spanCheck_any _ _ _ _ _).mono ?_; rintro e_1 w_1 ⟨rfl, hb_1⟩; rw [HRR.out]; have k_1 := k0.call hb_1; have B_1 := B0.trans (hb_1.mono B0.size); obtain ⟨c0_1, c1_1, c2_1, cf_1, cz_1⟩ := k_1.three')
            | fail)
        go_ret
        exact ⟨ret_int (HR0.out.trans hd'.out).symm, B_1⟩
    · have hd' : Hid (ckCgs L = 0) := by unfold Hid; rw [hd.out, List.drop_eq_nil_of_le (by rw [HL.out]; omega)]; rfl
      go_wp2_with fail
      go_ret
      exact ⟨ret_int (HR0.out.trans hd'.out).symm, hB⟩
end Go.Proofs.YtdlohfglmagneaaDoor
