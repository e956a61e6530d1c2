/- Boxes of blends: melt.box.middle, after, blends; wholeBox. -/
import Derived.Test.YtmemcopfeabcgaaCu
set_option linter.unusedSimpArgs false
set_option linter.unusedVariables false
namespace Go.Proofs.Ytmemcopfeabcgaa
open Go Go.RowKit
theorem mid_first {lo hi : Nat → Int} {k : Nat} (hk : k < 4) (h : ∀ i, i < k → lo i = hi i) (hne : lo k ≠ hi k) : mid lo hi = k := by
  unfold mid
  rcases four hk with rfl | rfl | rfl | rfl
  · rw [if_pos hne]
  · rw [if_neg (fun h' => h' (h 0 (by omega))), if_pos hne]
  · rw [if_neg (fun h' => h' (h 0 (by omega))), if_neg (fun h' => h' (h 1 (by omega))), if_pos hne]
  · rw [if_neg (fun h' => h' (h 0 (by omega))), if_neg (fun h' => h' (h 1 (by omega))), if_neg (fun h' => h' (h 2 (by omega)))]
set_option maxRecDepth 100000 in
set_option maxHeartbeats 2000000 in
theorem middle_any (lo hi : Nat → Int) (w : World) (hb : BoxOk lo hi) (h1 : one4 lo hi = false) :
    Calls Try.prog 99 #[.agg (xarr lo hi)] w fun e w' => e = .returned (.tuple #[.int .i64 (mid lo hi : Int), .int .i64 (cutAt lo hi)]) ∧ Below w.heap.size w w' := by
  have k1 := Bx.new w 91 (xarr lo hi)
  have B0 := (Below.refl w.heap.size w).alloc (Nat.le_refl _) (.cells (xarr lo hi) 91)
  have HM := Lib.hid (mid_lt h1)
  have HBX := Lib.hid hb
  clear hb h1
  go_enter Try.func99, Try.ntmps99
  go_wp2_with fail
  go_loopw [2] (fun i wr => ∃ k : Nat, k < 4 ∧ i = .int .i64 k ∧ Hid (∀ j, j < k → lo j = hi j) ∧ Bx wr w.heap.size 91 (xarr lo hi) ∧ Below w.heap.size w wr) (fun i _ => 4 - (intOf i).toNat)
  case atStart => exact ⟨0, by omega, rfl, Lib.hid (fun j hj => absurd hj (by omega)), k1, B0⟩
  case round =>
    clear k1 B0
    obtain ⟨k, hk, rfl, hd, k1, hB⟩ := hrel
    have hki : (k : Int) < 4 := by omega
    obtain ⟨a, ha⟩ : ∃ a, lo k = a := ⟨_, rfl⟩
    obtain ⟨b, hb⟩ : ∃ b, hi k = b := ⟨_, rfl⟩
    have q0 := (k1.cell (k * 2)).trans (xarr_lo lo hi hk)
    have q1 := (k1.cell (k * 2 + 1)).trans (xarr_hi lo hi hk)
    rw [ha] at q0
    rw [hb] at q1
    by_cases hab : a = b
    · have hk3 : k < 3 := by
        refine Nat.lt_of_not_le fun h3 => HM.out.2 ?_
        have e : k = 3 := by omega
        have hall : ∀ j, j < 4 → lo j = hi j := fun j hj => by
          by_cases hjk : j < k
          · exact hd.out j hjk
          · have : j = k := by omega
            subst this
            rw [ha, hb, hab]
        exact hall _ HM.out.1
      have hd' : Hid (∀ j, j < k + 1 → lo j = hi j) := Lib.hid fun j hj => by
        by_cases hjk : j < k
        · exact hd.out j hjk
        · have : j = k := by omega
          subst this
          rw [ha, hb, hab]
      have hab' : (a == b) = true := by rw [beq_iff_eq]; exact hab
      have hwk : IntKind.i64.wrap ((k : Int) + 1) = (k : Int) + 1 := IntWalk.i64_in _ (by omega)
      clear hab ha hb
      go_wp2_with fail
      refine AnyG.startC (by kernel_rfl) ?_
      refine AnyG.takeP (i := 0) (v := ?_) rfl (by kernel_rfl) (fun _ _ _ h => h) rfl ?_ ?_
      rotate_left
      · (intro w'; go_simp; try with_reducible rfl)
      try simp only [Act.put, List.getElem_toArray, List.getElem_cons_succ, List.getElem_cons_zero, List.setIfInBounds_toArray, List.set_cons_zero, List.set_cons_succ]
      refine AnyG.takeP (i := 1) (v := ?_) rfl (by kernel_rfl) (fun _ _ _ h => h) rfl ?_ ?_
      rotate_left
      · (intro w'; go_simp; try with_reducible rfl)
      try simp only [Act.put, List.getElem_toArray, List.getElem_cons_succ, List.getElem_cons_zero, List.setIfInBounds_toArray, List.set_cons_zero, List.set_cons_succ]
      refine AnyG.takeP (i := 2) (v := ?_) rfl (by kernel_rfl) (fun _ _ _ h => h) rfl ?_ ?_
      rotate_left
      · (intro w'; go_simp; try with_reducible rfl)
      try simp only [Act.put, List.getElem_toArray, List.getElem_cons_succ, List.getElem_cons_zero, List.setIfInBounds_toArray, List.set_cons_zero, List.set_cons_succ]
      refine AnyG.takeP (i := 4) (v := ?_) rfl (by kernel_rfl) (fun _ _ _ h => h) rfl ?_ ?_
      rotate_left
      · (intro w'; go_simp; try with_reducible rfl)
      try simp only [Act.put, List.getElem_toArray, List.getElem_cons_succ, List.getElem_cons_zero, List.setIfInBounds_toArray, List.set_cons_zero, List.set_cons_succ]
      refine AnyG.takeP (i := 5) (v := ?_) rfl (by kernel_rfl) (fun _ _ _ h => h) rfl ?_ ?_
      rotate_left
      · (intro w'; go_simp; try with_reducible rfl)
      try simp only [Act.put, List.getElem_toArray, List.getElem_cons_succ, List.getElem_cons_zero, List.setIfInBounds_toArray, List.set_cons_zero, List.set_cons_succ]
      refine AnyG.takeP (i := 6) (v := ?_) rfl (by kernel_rfl) (fun _ _ _ h => h) rfl ?_ ?_
      rotate_left
      · (intro w'; go_simp; try with_reducible rfl)
      try simp only [Act.put, List.getElem_toArray, List.getElem_cons_succ, List.getElem_cons_zero, List.setIfInBounds_toArray, List.set_cons_zero, List.set_cons_succ]
      refine AnyG.enter (fun w' : World => Below wr.heap.size wr w') (fun i => true) ?_
      have hS : (fun w' : World => Below wr.heap.size wr w') (World.drew _) := (Below.refl _ _).drew
      refine AnyG.takeC (i := 3) (v := ?_) rfl (by kernel_rfl) (fun _ _ _ h => h) rfl ?_ hS ?_
      rotate_left
      · (intro w' hSw; (try dsimp only at hSw); have q0 := cellC hSw q0; have q1 := cellC hSw q1; go_simp; try with_reducible rfl)
      try simp only [Act.put, List.getElem_toArray, List.getElem_cons_succ, List.getElem_cons_zero, List.setIfInBounds_toArray, List.set_cons_zero, List.set_cons_succ]
      refine AnyG.takeC (i := 7) (v := ?_) rfl (by kernel_rfl) (fun _ _ _ h => h) rfl ?_ hS ?_
      rotate_left
      · (intro w' hSw; (try dsimp only at hSw); have q0 := cellC hSw q0; have q1 := cellC hSw q1; go_simp; try with_reducible rfl)
      try simp only [Act.put, List.getElem_toArray, List.getElem_cons_succ, List.getElem_cons_zero, List.setIfInBounds_toArray, List.set_cons_zero, List.set_cons_succ]
      refine AnyG.takeC (i := 8) (v := ?_) rfl (by kernel_rfl) (fun _ _ _ h => h) rfl ?_ hS ?_
      rotate_left
      · (intro w' hSw; (try dsimp only at hSw); go_simp; try with_reducible rfl)
      try simp only [Act.put, List.getElem_toArray, List.getElem_cons_succ, List.getElem_cons_zero, List.setIfInBounds_toArray, List.set_cons_zero, List.set_cons_succ]
      refine AnyG.done (by kernel_rfl) ?_ _
      go_simp
      go_wp2_with fail
      go_roundw
      case rel => exact ⟨k + 1, by omega, by go_num, hd', k1.drew, hB.drew⟩
      case measure => simp [intOf]; omega
    · have hmk : mid lo hi = k := mid_first hk hd.out (by rw [ha, hb]; exact hab)
      have hab' : (a == b) = false := by rw [beq_eq_false_iff_ne]; exact hab
      have hR : Hid ((mid lo hi : Int) = k ∧ cutAt lo hi = (a + b).tdiv 2) := by unfold Hid cutAt; rw [hmk, ha, hb]; exact ⟨rfl, rfl⟩
      have a6 := HBX.out.six k
      have b6 := HBX.out.six2 k
      rw [ha] at a6
      rw [hb] at b6
      have hw1 : IntKind.i64.wrap (a + b) = a + b := IntWalk.i64_in _ (by omega)
      have hw2 : IntKind.i64.wrap ((a + b).tdiv 2) = (a + b).tdiv 2 := IntWalk.i64_in _ (by rw [Int.tdiv_eq_ediv_of_nonneg (by omega)]; omega)
      clear hab ha hb hmk
      go_wp2_with fail
      refine AnyG.startC (by kernel_rfl) ?_
      refine AnyG.takeP (i := 0) (v := ?_) rfl (by kernel_rfl) (fun _ _ _ h => h) rfl ?_ ?_
      rotate_left
      · (intro w'; go_simp; try with_reducible rfl)
      try simp only [Act.put, List.getElem_toArray, List.getElem_cons_succ, List.getElem_cons_zero, List.setIfInBounds_toArray, List.set_cons_zero, List.set_cons_succ]
      refine AnyG.takeP (i := 1) (v := ?_) rfl (by kernel_rfl) (fun _ _ _ h => h) rfl ?_ ?_
      rotate_left
      · (intro w'; go_simp; try with_reducible rfl)
      try simp only [Act.put, List.getElem_toArray, List.getElem_cons_succ, List.getElem_cons_zero, List.setIfInBounds_toArray, List.set_cons_zero, List.set_cons_succ]
      refine AnyG.takeP (i := 2) (v := ?_) rfl (by kernel_rfl) (fun _ _ _ h => h) rfl ?_ ?_
      rotate_left
      · (intro w'; go_simp; try with_reducible rfl)
      try simp only [Act.put, List.getElem_toArray, List.getElem_cons_succ, List.getElem_cons_zero, List.setIfInBounds_toArray, List.set_cons_zero, List.set_cons_succ]
      refine AnyG.takeP (i := 4) (v := ?_) rfl (by kernel_rfl) (fun _ _ _ h => h) rfl ?_ ?_
      rotate_left
      · (intro w'; go_simp; try with_reducible rfl)
      try simp only [Act.put, List.getElem_toArray, List.getElem_cons_succ, List.getElem_cons_zero, List.setIfInBounds_toArray, List.set_cons_zero, List.set_cons_succ]
      refine AnyG.takeP (i := 5) (v := ?_) rfl (by kernel_rfl) (fun _ _ _ h => h) rfl ?_ ?_
      rotate_left
      · (intro w'; go_simp; try with_reducible rfl)
      try simp only [Act.put, List.getElem_toArray, List.getElem_cons_succ, List.getElem_cons_zero, List.setIfInBounds_toArray, List.set_cons_zero, List.set_cons_succ]
      refine AnyG.takeP (i := 6) (v := ?_) rfl (by kernel_rfl) (fun _ _ _ h => h) rfl ?_ ?_
      rotate_left
      · (intro w'; go_simp; try with_reducible rfl)
      try simp only [Act.put, List.getElem_toArray, List.getElem_cons_succ, List.getElem_cons_zero, List.setIfInBounds_toArray, List.set_cons_zero, List.set_cons_succ]
      refine AnyG.enter (fun w' : World => Below wr.heap.size wr w') (fun i => true) ?_
      have hS : (fun w' : World => Below wr.heap.size wr w') (World.drew _) := (Below.refl _ _).drew
      refine AnyG.takeC (i := 3) (v := ?_) rfl (by kernel_rfl) (fun _ _ _ h => h) rfl ?_ hS ?_
      rotate_left
      · (intro w' hSw; (try dsimp only at hSw); have q0 := cellC hSw q0; have q1 := cellC hSw q1; go_simp; try with_reducible rfl)
      try simp only [Act.put, List.getElem_toArray, List.getElem_cons_succ, List.getElem_cons_zero, List.setIfInBounds_toArray, List.set_cons_zero, List.set_cons_succ]
      refine AnyG.takeC (i := 7) (v := ?_) rfl (by kernel_rfl) (fun _ _ _ h => h) rfl ?_ hS ?_
      rotate_left
      · (intro w' hSw; (try dsimp only at hSw); have q0 := cellC hSw q0; have q1 := cellC hSw q1; go_simp; try with_reducible rfl)
      try simp only [Act.put, List.getElem_toArray, List.getElem_cons_succ, List.getElem_cons_zero, List.setIfInBounds_toArray, List.set_cons_zero, List.set_cons_succ]
      refine AnyG.takeC (i := 8) (v := ?_) rfl (by kernel_rfl) (fun _ _ _ h => h) rfl ?_ hS ?_
      rotate_left
      · (intro w' hSw; (try dsimp only at hSw); go_simp; try with_reducible rfl)
      try simp only [Act.put, List.getElem_toArray, List.getElem_cons_succ, List.getElem_cons_zero, List.setIfInBounds_toArray, List.set_cons_zero, List.set_cons_succ]
      refine AnyG.done (by kernel_rfl) ?_ _
      go_simp
      go_wp2_with fail
      obtain ⟨wr2, hwr2⟩ : ∃ wr2, wr.drew = wr2 := ⟨_, rfl⟩
      have q0 := cellC (hwr2 ▸ (Below.refl wr.heap.size wr).drew : Below wr.heap.size wr wr2) q0
      have q1 := cellC (hwr2 ▸ (Below.refl wr.heap.size wr).drew : Below wr.heap.size wr wr2) q1
      have hB2 : Below w.heap.size w wr2 := hwr2 ▸ hB.drew
      rw [hwr2]
      clear hwr2 hS
      refine AnyG.startC (by kernel_rfl) ?_
      refine AnyG.takeP (i := 0) (v := ?_) rfl (by kernel_rfl) (fun _ _ _ h => h) rfl ?_ ?_
      rotate_left
      · (intro w'; go_simp; try with_reducible rfl)
      try simp only [Act.put, List.getElem_toArray, List.getElem_cons_succ, List.getElem_cons_zero, List.setIfInBounds_toArray, List.set_cons_zero, List.set_cons_succ]
      refine AnyG.takeP (i := 1) (v := ?_) rfl (by kernel_rfl) (fun _ _ _ h => h) rfl ?_ ?_
      rotate_left
      · (intro w'; go_simp; try with_reducible rfl)
      try simp only [Act.put, List.getElem_toArray, List.getElem_cons_succ, List.getElem_cons_zero, List.setIfInBounds_toArray, List.set_cons_zero, List.set_cons_succ]
      refine AnyG.takeP (i := 2) (v := ?_) rfl (by kernel_rfl) (fun _ _ _ h => h) rfl ?_ ?_
      rotate_left
      · (intro w'; go_simp; try with_reducible rfl)
      try simp only [Act.put, List.getElem_toArray, List.getElem_cons_succ, List.getElem_cons_zero, List.setIfInBounds_toArray, List.set_cons_zero, List.set_cons_succ]
      refine AnyG.takeP (i := 3) (v := ?_) rfl (by kernel_rfl) (fun _ _ _ h => h) rfl ?_ ?_
      rotate_left
      · (intro w'; go_simp; try with_reducible rfl)
      try simp only [Act.put, List.getElem_toArray, List.getElem_cons_succ, List.getElem_cons_zero, List.setIfInBounds_toArray, List.set_cons_zero, List.set_cons_succ]
      refine AnyG.takeP (i := 5) (v := ?_) rfl (by kernel_rfl) (fun _ _ _ h => h) rfl ?_ ?_
      rotate_left
      · (intro w'; go_simp; try with_reducible rfl)
      try simp only [Act.put, List.getElem_toArray, List.getElem_cons_succ, List.getElem_cons_zero, List.setIfInBounds_toArray, List.set_cons_zero, List.set_cons_succ]
      refine AnyG.takeP (i := 6) (v := ?_) rfl (by kernel_rfl) (fun _ _ _ h => h) rfl ?_ ?_
      rotate_left
      · (intro w'; go_simp; try with_reducible rfl)
      try simp only [Act.put, List.getElem_toArray, List.getElem_cons_succ, List.getElem_cons_zero, List.setIfInBounds_toArray, List.set_cons_zero, List.set_cons_succ]
      refine AnyG.takeP (i := 7) (v := ?_) rfl (by kernel_rfl) (fun _ _ _ h => h) rfl ?_ ?_
      rotate_left
      · (intro w'; go_simp; try with_reducible rfl)
      try simp only [Act.put, List.getElem_toArray, List.getElem_cons_succ, List.getElem_cons_zero, List.setIfInBounds_toArray, List.set_cons_zero, List.set_cons_succ]
      refine AnyG.enter (fun w' : World => Below wr2.heap.size wr2 w') (fun i => true) ?_
      have hS : (fun w' : World => Below wr2.heap.size wr2 w') (World.drew _) := (Below.refl _ _).drew
      refine AnyG.takeC (i := 4) (v := ?_) rfl (by kernel_rfl) (fun _ _ _ h => h) rfl ?_ hS ?_
      rotate_left
      · (intro w' hSw; (try dsimp only at hSw); have q0 := cellC hSw q0; have q1 := cellC hSw q1; go_simp; try with_reducible rfl)
      try simp only [Act.put, List.getElem_toArray, List.getElem_cons_succ, List.getElem_cons_zero, List.setIfInBounds_toArray, List.set_cons_zero, List.set_cons_succ]
      refine AnyG.takeC (i := 8) (v := ?_) rfl (by kernel_rfl) (fun _ _ _ h => h) rfl ?_ hS ?_
      rotate_left
      · (intro w' hSw; (try dsimp only at hSw); have q0 := cellC hSw q0; have q1 := cellC hSw q1; go_simp; try with_reducible rfl)
      try simp only [Act.put, List.getElem_toArray, List.getElem_cons_succ, List.getElem_cons_zero, List.setIfInBounds_toArray, List.set_cons_zero, List.set_cons_succ]
      refine AnyG.takeC (i := 9) (v := ?_) rfl (by kernel_rfl) (fun _ _ _ h => h) rfl ?_ hS ?_
      rotate_left
      · (intro w' hSw; (try dsimp only at hSw); go_simp; try with_reducible rfl)
      try simp only [Act.put, List.getElem_toArray, List.getElem_cons_succ, List.getElem_cons_zero, List.setIfInBounds_toArray, List.set_cons_zero, List.set_cons_succ]
      refine AnyG.takeC (i := 10) (v := ?_) rfl (by kernel_rfl) (fun _ _ _ h => h) rfl ?_ hS ?_
      rotate_left
      · (intro w' hSw; (try dsimp only at hSw); go_simp; try with_reducible rfl)
      try simp only [Act.put, List.getElem_toArray, List.getElem_cons_succ, List.getElem_cons_zero, List.setIfInBounds_toArray, List.set_cons_zero, List.set_cons_succ]
      refine AnyG.takeC (i := 11) (v := ?_) rfl (by kernel_rfl) (fun _ _ _ h => h) rfl ?_ hS ?_
      rotate_left
      · (intro w' hSw; (try dsimp only at hSw); go_simp; try with_reducible rfl)
      try simp only [Act.put, List.getElem_toArray, List.getElem_cons_succ, List.getElem_cons_zero, List.setIfInBounds_toArray, List.set_cons_zero, List.set_cons_succ]
      refine AnyG.takeC (i := 12) (v := ?_) rfl (by kernel_rfl) (fun _ _ _ h => h) rfl ?_ hS ?_
      rotate_left
      · (intro w' hSw; (try dsimp only at hSw); go_simp; try with_reducible rfl)
      try simp only [Act.put, List.getElem_toArray, List.getElem_cons_succ, List.getElem_cons_zero, List.setIfInBounds_toArray, List.set_cons_zero, List.set_cons_succ]
      refine AnyG.done (by kernel_rfl) ?_ _
      go_simp
      go_wp2_with fail
      refine bodyPost_ret (v := .tuple #[.int .i64 k, .int .i64 ((a + b).tdiv 2)]) (by simp [results, Try.results99, go_sem, hw1, hw2]) rfl ⟨by rw [hR.out.1, hR.out.2], hB2.drew⟩
end Go.Proofs.Ytmemcopfeabcgaa
