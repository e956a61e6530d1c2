/- Boxes of blends: melt.box.after, blends; wholeBox. -/
import Derived.Test.YtmemcopfeabcgaaMi
set_option linter.unusedSimpArgs false
set_option linter.unusedVariables false
namespace Go.Proofs.Ytmemcopfeabcgaa
open Go Go.RowKit
def resf (lo d : Nat → Int) (m : Nat) : Nat → Int := fun i => if i < m then d i else lo i
theorem aft_some {lo hi d : Nat → Int} {k : Nat} (hk : k < 4) (h : ∀ i, k < i → i < 4 → ¬ d i < hi i) (h1 : d k < hi k) : ∃ f, aft lo hi d = some f ∧ barr f = barr (up1 (resf lo d (k + 1)) k (d k + 1)) := by
  unfold aft
  rcases four hk with rfl | rfl | rfl | rfl
  · rw [if_neg (h 3 (by omega) (by omega)), if_neg (h 2 (by omega) (by omega)), if_neg (h 1 (by omega) (by omega)), if_pos h1]
    exact ⟨_, rfl, barr_congr fun i hi => by rcases four hi with rfl | rfl | rfl | rfl <;> simp [up1, resf]⟩
  · rw [if_neg (h 3 (by omega) (by omega)), if_neg (h 2 (by omega) (by omega)), if_pos h1]
    exact ⟨_, rfl, barr_congr fun i hi => by rcases four hi with rfl | rfl | rfl | rfl <;> simp [up1, resf]⟩
  · rw [if_neg (h 3 (by omega) (by omega)), if_pos h1]
    exact ⟨_, rfl, barr_congr fun i hi => by rcases four hi with rfl | rfl | rfl | rfl <;> simp [up1, resf]⟩
  · rw [if_pos h1]
    exact ⟨_, rfl, barr_congr fun i hi => by rcases four hi with rfl | rfl | rfl | rfl <;> simp [up1, resf]⟩
theorem aft_no {lo hi d : Nat → Int} (h : ∀ i, i < 4 → ¬ d i < hi i) : aft lo hi d = none := by
  unfold aft
  rw [if_neg (h 3 (by omega)), if_neg (h 2 (by omega)), if_neg (h 1 (by omega)), if_neg (h 0 (by omega))]
theorem resf4 (lo d : Nat → Int) : barr (resf lo d 4) = barr d := barr_congr fun i hi => by simp [resf, hi]
theorem resf_step (lo d : Nat → Int) {k : Nat} (hk : k < 4) : barr (up1 (resf lo d (k + 1)) k (lo k)) = barr (resf lo d k) := barr_congr fun i hi => by
  unfold up1 resf
  by_cases h : i = k
  · subst h; simp
  · rw [if_neg h]
    by_cases h2 : i < k
    · rw [if_pos (by omega), if_pos h2]
    · rw [if_neg (by omega), if_neg h2]
/-- What after returns. -/
def aftV (lo hi d : Nat → Int) : Value := match aft lo hi d with
  | some f => .tuple #[.agg (barr f), .bool true]
  | none => .tuple #[.agg (barr d), .bool false]
set_option maxRecDepth 100000 in
set_option maxHeartbeats 2000000 in
theorem after_any (lo hi d : Nat → Int) (w : World) (hd : ∀ i, i < 4 → 0 ≤ d i ∧ d i ≤ 6) :
    Calls Try.prog 86 #[.agg (xarr lo hi), .agg (barr d)] w fun e w' => e = .returned (aftV lo hi d) ∧ Below w.heap.size w w' := by
  have k1 := ((Bx.new w 91 (xarr lo hi)).alloc (.cells (barr d) 81)).alloc (.cells (barr (cutf 0 d)) 81)
  have k2 := (Bx.at (w.alloc (.cells (xarr lo hi) 91)) 81 (barr d) (n := w.heap.size + 1) (by simp)).alloc (.cells (barr (cutf 0 d)) 81)
  have k3 := Bx.at ((w.alloc (.cells (xarr lo hi) 91)).alloc (.cells (barr d) 81)) 81 (barr (cutf 0 d)) (n := w.heap.size + 1 + 1) (by simp)
  have B0 := (((Below.refl w.heap.size w).alloc (Nat.le_refl _) (.cells (xarr lo hi) 91)).alloc (by simp) (.cells (barr d) 81)).alloc (by simp; omega) (.cells (barr (cutf 0 d)) 81)
  obtain ⟨W1, hW1⟩ : ∃ W1, ((w.alloc (.cells (xarr lo hi) 91)).alloc (.cells (barr d) 81)).alloc (.cells (barr (cutf 0 d)) 81) = W1 := ⟨_, rfl⟩
  have hz1 : W1.heap.size = w.heap.size + 1 + 1 + 1 := by rw [← hW1]; simp
  rw [hW1] at k1 k2 k3 B0
  rw [barr_cut0] at hW1
  have HW := Lib.hid hW1
  clear hW1
  have k4 := Bx.at W1 81 (barr d) (n := w.heap.size + 1 + 1 + 1) hz1.symm
  have B1 := B0.alloc B0.size (.cells (barr d) 81)
  replace k1 := k1.alloc (.cells (barr d) 81)
  have k2' := k2
  replace k2 := k2.alloc (.cells (barr d) 81)
  replace k3 := k3.alloc (.cells (barr d) 81)
  obtain ⟨W2, hW2⟩ : ∃ W2, W1.alloc (.cells (barr d) 81) = W2 := ⟨_, rfl⟩
  rw [hW2] at k1 k2 k3 k4 B1
  have HZ := Lib.hid hz1
  rw [barr_def] at hW2
  have HW2 := Lib.hid hW2
  clear hW2 hz1
  obtain ⟨p0, p1, p2, p3, pf, pz⟩ := k2'.barr
  go_enter Try.func86, Try.ntmps86
  go_wp2_with (first | ((with_reducible (show wpList _ _ _ (⟨some 8, _, _, _, _, _⟩ :: _) _ _)); rw [HW.out]))
  rw [HW2.out, HZ.out]
  clear p0 p1 p2 p3 pf pz k2'
  go_loopw [7] (fun i wr => ∃ (m : Nat) (z : Int), m ≤ 4 ∧ z = (m : Int) - 1 ∧ i = .int .i64 z ∧ Hid (∀ j, m ≤ j → j < 4 → hi j ≤ d j) ∧ Bx wr w.heap.size 91 (xarr lo hi) ∧ Bx wr (w.heap.size + 1) 81 (barr d) ∧ Bx wr (w.heap.size + 1 + 1) 81 (barr (cutf 0 d)) ∧ Bx wr (w.heap.size + 1 + 1 + 1) 81 (barr (resf lo d m)) ∧ Below w.heap.size w wr) (fun i _ => (intOf i + 1).toNat)
  case atStart => exact ⟨4, 3, by omega, rfl, rfl, Lib.hid (fun j h1 h2 => absurd h1 (by omega)), k1, k2, k3, by rw [resf4]; exact k4, B1⟩
  case round =>
    clear k1 k2 k3 k4 B0 B1
    obtain ⟨m, z, hm, hz, rfl, hno, k1, k2, k3, k4, hB⟩ := hrel
    cases m with
    | zero =>
      obtain rfl : z = -1 := by simpa using hz
      clear hz
      have hR : Hid (aftV lo hi d = .tuple #[.agg (barr d), .bool false]) := by unfold Hid aftV; rw [aft_no fun i hi => Int.not_lt.2 (hno.out i (by omega) hi)]
      obtain ⟨p0, p1, p2, p3, pf, pz⟩ := k2.barr
      obtain ⟨q0, q1, q2, q3, qf, qz⟩ := k3.barr
      go_wp2_with fail
      refine bodyPost_ret (v := .tuple #[.agg #[.int .i64 (d 0), .int .i64 (d 1), .int .i64 (d 2), .int .i64 (d 3)], .bool false]) (by simp [results, Try.results86, go_sem, p0, p1, p2, p3, pf, q0, q1, q2, q3, qf]) rfl ⟨by rw [hR.out, barr_def], ?_⟩
      exact (((hB.setCell (by simp; omega) _).setCell (by simp; omega) _).setCell (by simp; omega) _).setCell (by simp; omega) _
    | succ k =>
      obtain rfl : z = (k : Int) := by omega
      clear hz
      have hk4 : k < 4 := by omega
      have hki : (k : Int) < 4 := by omega
      have h0k : (0 : Int) ≤ (k : Int) := by omega
      obtain ⟨a, ha⟩ : ∃ a, d k = a := ⟨_, rfl⟩
      obtain ⟨b, hb⟩ : ∃ b, hi k = b := ⟨_, rfl⟩
      obtain ⟨l, hl⟩ : ∃ l, lo k = l := ⟨_, rfl⟩
      have a6 := hd k hk4
      rw [ha] at a6
      have q0 := (k4.cell k).trans (barr_get' (z := a) hk4 (by rw [← ha]; simp [resf]))
      have q1 := (k1.cell (k * 2 + 1)).trans (xarr_hi lo hi hk4)
      have q2 := (k1.cell (k * 2)).trans (xarr_lo lo hi hk4)
      rw [hb] at q1
      rw [hl] at q2
      have f4 := k4.free
      have z4 := k4.lt
      have hw1 : IntKind.i64.wrap (a + 1) = a + 1 := IntWalk.i64_in _ (by omega)
      have hw2 : IntKind.i64.wrap ((k : Int) - 1) = (k : Int) - 1 := IntWalk.i64_in _ (by omega)
      by_cases hab : a < b
      · obtain ⟨f, hf1, hf2⟩ := aft_some (lo := lo) (hi := hi) (d := d) hk4 (fun i h1 h2 => Int.not_lt.2 (hno.out i (by omega) h2)) (by rw [ha, hb]; exact hab)
        have hR : Hid (aftV lo hi d = .tuple #[.agg (barr (up1 (resf lo d (k + 1)) k (a + 1))), .bool true]) := by unfold Hid aftV; rw [hf1]; simp only [hf2, ha]
        clear hno hf1 hf2 ha hb hl
        obtain ⟨s0, s1, s2, s3, sf, sz⟩ := k3.barr
        go_wp2_with fail
        refine AnyG.startC (by kernel_rfl) ?_
        refine AnyG.takeP (i := 0) (v := ?_) rfl (by kernel_rfl) (fun _ _ _ h => h) rfl ?_ ?_
        rotate_left
        · (intro w'; go_simp; try with_reducible rfl)
        try simp only [Act.put, List.getElem_toArray, List.getElem_cons_succ, List.getElem_cons_zero, List.setIfInBounds_toArray, List.set_cons_zero, List.set_cons_succ]
        refine AnyG.takeP (i := 1) (v := ?_) rfl (by kernel_rfl) (fun _ _ _ h => h) rfl ?_ ?_
        rotate_left
        · (intro w'; go_simp; try with_reducible rfl)
        try simp only [Act.put, List.getElem_toArray, List.getElem_cons_succ, List.getElem_cons_zero, List.setIfInBounds_toArray, List.set_cons_zero, List.set_cons_succ]
        refine AnyG.takeP (i := 3) (v := ?_) rfl (by kernel_rfl) (fun _ _ _ h => h) rfl ?_ ?_
        rotate_left
        · (intro w'; go_simp; try with_reducible rfl)
        try simp only [Act.put, List.getElem_toArray, List.getElem_cons_succ, List.getElem_cons_zero, List.setIfInBounds_toArray, List.set_cons_zero, List.set_cons_succ]
        refine AnyG.takeP (i := 4) (v := ?_) rfl (by kernel_rfl) (fun _ _ _ h => h) rfl ?_ ?_
        rotate_left
        · (intro w'; go_simp; try with_reducible rfl)
        try simp only [Act.put, List.getElem_toArray, List.getElem_cons_succ, List.getElem_cons_zero, List.setIfInBounds_toArray, List.set_cons_zero, List.set_cons_succ]
        refine AnyG.takeP (i := 5) (v := ?_) rfl (by kernel_rfl) (fun _ _ _ h => h) rfl ?_ ?_
        rotate_left
        · (intro w'; go_simp; try with_reducible rfl)
        try simp only [Act.put, List.getElem_toArray, List.getElem_cons_succ, List.getElem_cons_zero, List.setIfInBounds_toArray, List.set_cons_zero, List.set_cons_succ]
        refine AnyG.enter (fun w' : World => Below wr.heap.size wr w') (fun i => true) ?_
        have hS : (fun w' : World => Below wr.heap.size wr w') (World.drew _) := (Below.refl _ _).drew
        refine AnyG.takeC (i := 2) (v := ?_) rfl (by kernel_rfl) (fun _ _ _ h => h) rfl ?_ hS ?_
        rotate_left
        · (intro w' hSw; (try dsimp only at hSw); have q0 := cellC hSw q0; have q1 := cellC hSw q1; go_simp; try with_reducible rfl)
        try simp only [Act.put, List.getElem_toArray, List.getElem_cons_succ, List.getElem_cons_zero, List.setIfInBounds_toArray, List.set_cons_zero, List.set_cons_succ]
        refine AnyG.takeC (i := 6) (v := ?_) rfl (by kernel_rfl) (fun _ _ _ h => h) rfl ?_ hS ?_
        rotate_left
        · (intro w' hSw; (try dsimp only at hSw); have q0 := cellC hSw q0; have q1 := cellC hSw q1; go_simp; try with_reducible rfl)
        try simp only [Act.put, List.getElem_toArray, List.getElem_cons_succ, List.getElem_cons_zero, List.setIfInBounds_toArray, List.set_cons_zero, List.set_cons_succ]
        refine AnyG.takeC (i := 7) (v := ?_) rfl (by kernel_rfl) (fun _ _ _ h => h) rfl ?_ hS ?_
        rotate_left
        · (intro w' hSw; (try dsimp only at hSw); go_simp; try with_reducible rfl)
        try simp only [Act.put, List.getElem_toArray, List.getElem_cons_succ, List.getElem_cons_zero, List.setIfInBounds_toArray, List.set_cons_zero, List.set_cons_succ]
        refine AnyG.done (by kernel_rfl) ?_ _
        go_simp
        have k4' := ((barr_set (resf lo d (k + 1)) hk4 (a + 1)) ▸ k4.set_ k (.int .i64 (a + 1))).drew
        have k3' := (k3.far (p := ⟨w.heap.size + 1 + 1 + 1, k, none⟩) (by simp) (.int .i64 (a + 1))).drew
        have hB' := (hB.setCell (p := ⟨w.heap.size + 1 + 1 + 1, k, none⟩) (by simp; omega) (.int .i64 (a + 1))).drew
        obtain ⟨W3, hW3⟩ : ∃ W3, (wr.setCell ⟨w.heap.size + 1 + 1 + 1, k, none⟩ (.int .i64 (a + 1))).drew = W3 := ⟨_, rfl⟩
        rw [hW3] at k4' k3' hB'
        have HW3 := Lib.hid hW3
        clear hW3 s0 s1 s2 s3 sf sz
        obtain ⟨t0, t1, t2, t3, tf, tz⟩ := k4'.barr
        obtain ⟨s0, s1, s2, s3, sf, sz⟩ := k3'.barr
        go_wp2_with ((with_reducible (show wpList _ _ _ (⟨some 26, _, _, _, _, _⟩ :: _) _ _)); rw [HW3.out])
        obtain ⟨F, hF⟩ : ∃ F, up1 (resf lo d (k + 1)) k (a + 1) = F := ⟨_, rfl⟩
        rw [hF] at t0 t1 t2 t3 hR ⊢
        refine bodyPost_ret (v := .tuple #[.agg #[.int .i64 (F 0), .int .i64 (F 1), .int .i64 (F 2), .int .i64 (F 3)], .bool true]) (by simp [results, Try.results86, go_sem, t0, t1, t2, t3, tf, s0, s1, s2, s3, sf]) rfl ⟨by rw [hR.out, barr_def], ?_⟩
        exact (((hB'.setCell (by simp; omega) _).setCell (by simp; omega) _).setCell (by simp; omega) _).setCell (by simp; omega) _
      · have hno' : Hid (∀ j, k ≤ j → j < 4 → hi j ≤ d j) := Lib.hid fun j h1 h2 => by
          by_cases hjk : j = k
          · subst hjk; rw [ha, hb]; exact Int.not_lt.1 hab
          · exact hno.out j (by omega) h2
        have hst := resf_step lo d hk4
        rw [hl] at hst
        clear hno ha hb hl
        have hab' : decide (a < b) = false := decide_eq_false hab
        go_wp2_with fail
        refine AnyG.startC (by kernel_rfl) ?_
        refine AnyG.takeP (i := 0) (v := ?_) rfl (by kernel_rfl) (fun _ _ _ h => h) rfl ?_ ?_
        rotate_left
        · (intro w'; go_simp; try with_reducible rfl)
        try simp only [Act.put, List.getElem_toArray, List.getElem_cons_succ, List.getElem_cons_zero, List.setIfInBounds_toArray, List.set_cons_zero, List.set_cons_succ]
        refine AnyG.takeP (i := 1) (v := ?_) rfl (by kernel_rfl) (fun _ _ _ h => h) rfl ?_ ?_
        rotate_left
        · (intro w'; go_simp; try with_reducible rfl)
        try simp only [Act.put, List.getElem_toArray, List.getElem_cons_succ, List.getElem_cons_zero, List.setIfInBounds_toArray, List.set_cons_zero, List.set_cons_succ]
        refine AnyG.takeP (i := 3) (v := ?_) rfl (by kernel_rfl) (fun _ _ _ h => h) rfl ?_ ?_
        rotate_left
        · (intro w'; go_simp; try with_reducible rfl)
        try simp only [Act.put, List.getElem_toArray, List.getElem_cons_succ, List.getElem_cons_zero, List.setIfInBounds_toArray, List.set_cons_zero, List.set_cons_succ]
        refine AnyG.takeP (i := 4) (v := ?_) rfl (by kernel_rfl) (fun _ _ _ h => h) rfl ?_ ?_
        rotate_left
        · (intro w'; go_simp; try with_reducible rfl)
        try simp only [Act.put, List.getElem_toArray, List.getElem_cons_succ, List.getElem_cons_zero, List.setIfInBounds_toArray, List.set_cons_zero, List.set_cons_succ]
        refine AnyG.takeP (i := 5) (v := ?_) rfl (by kernel_rfl) (fun _ _ _ h => h) rfl ?_ ?_
        rotate_left
        · (intro w'; go_simp; try with_reducible rfl)
        try simp only [Act.put, List.getElem_toArray, List.getElem_cons_succ, List.getElem_cons_zero, List.setIfInBounds_toArray, List.set_cons_zero, List.set_cons_succ]
        refine AnyG.enter (fun w' : World => Below wr.heap.size wr w') (fun i => true) ?_
        have hS : (fun w' : World => Below wr.heap.size wr w') (World.drew _) := (Below.refl _ _).drew
        refine AnyG.takeC (i := 2) (v := ?_) rfl (by kernel_rfl) (fun _ _ _ h => h) rfl ?_ hS ?_
        rotate_left
        · (intro w' hSw; (try dsimp only at hSw); have q0 := cellC hSw q0; have q1 := cellC hSw q1; go_simp; try with_reducible rfl)
        try simp only [Act.put, List.getElem_toArray, List.getElem_cons_succ, List.getElem_cons_zero, List.setIfInBounds_toArray, List.set_cons_zero, List.set_cons_succ]
        refine AnyG.takeC (i := 6) (v := ?_) rfl (by kernel_rfl) (fun _ _ _ h => h) rfl ?_ hS ?_
        rotate_left
        · (intro w' hSw; (try dsimp only at hSw); have q0 := cellC hSw q0; have q1 := cellC hSw q1; go_simp; try with_reducible rfl)
        try simp only [Act.put, List.getElem_toArray, List.getElem_cons_succ, List.getElem_cons_zero, List.setIfInBounds_toArray, List.set_cons_zero, List.set_cons_succ]
        refine AnyG.takeC (i := 7) (v := ?_) rfl (by kernel_rfl) (fun _ _ _ h => h) rfl ?_ hS ?_
        rotate_left
        · (intro w' hSw; (try dsimp only at hSw); go_simp; try with_reducible rfl)
        try simp only [Act.put, List.getElem_toArray, List.getElem_cons_succ, List.getElem_cons_zero, List.setIfInBounds_toArray, List.set_cons_zero, List.set_cons_succ]
        refine AnyG.done (by kernel_rfl) ?_ _
        go_simp
        have k4' := ((barr_set (resf lo d (k + 1)) hk4 l) ▸ k4.set_ k (.int .i64 l)).drew
        rw [hst] at k4'
        have k1' := (k1.far (p := ⟨w.heap.size + 1 + 1 + 1, k, none⟩) (by simp; omega) (.int .i64 l)).drew
        have k2' := (k2.far (p := ⟨w.heap.size + 1 + 1 + 1, k, none⟩) (by simp) (.int .i64 l)).drew
        have k3' := (k3.far (p := ⟨w.heap.size + 1 + 1 + 1, k, none⟩) (by simp) (.int .i64 l)).drew
        have hB' := (hB.setCell (p := ⟨w.heap.size + 1 + 1 + 1, k, none⟩) (by simp; omega) (.int .i64 l)).drew
        go_wp2_with fail
        go_roundw
        case rel => exact ⟨k, (k : Int) - 1, by omega, rfl, by simp [hw2], hno', k1', k2', k3', k4', hB'⟩
        case measure => simp [intOf]; try omega
end Go.Proofs.Ytmemcopfeabcgaa
