/- Boxes of blends: melt.box.least, greatest, only, isOne, cut, middle, after; wholeBox. -/
import Derived.Test.YtmemcopfeabcgaaCy
set_option linter.unusedSimpArgs false
set_option linter.unusedVariables false
namespace Go.Proofs.Ytmemcopfeabcgaa
open Go Go.RowKit
theorem xarr_def (lo hi : Nat → Int) : xarr lo hi = #[.int .i64 (lo 0), .int .i64 (hi 0), .int .i64 (lo 1), .int .i64 (hi 1), .int .i64 (lo 2), .int .i64 (hi 2), .int .i64 (lo 3), .int .i64 (hi 3)] := by unfold xarr; rfl
theorem Bx.xarr {w : World} {g : Nat} {t : TypeId} {lo hi : Nat → Int} (h : Bx w g t (Go.Proofs.Ytmemcopfeabcgaa.xarr lo hi)) : w.cell? ⟨g, 0, none⟩ = some (.int .i64 (lo 0)) ∧ w.cell? ⟨g, 1, none⟩ = some (.int .i64 (hi 0)) ∧ w.cell? ⟨g, 2, none⟩ = some (.int .i64 (lo 1)) ∧ w.cell? ⟨g, 3, none⟩ = some (.int .i64 (hi 1)) ∧ w.cell? ⟨g, 4, none⟩ = some (.int .i64 (lo 2)) ∧ w.cell? ⟨g, 5, none⟩ = some (.int .i64 (hi 2)) ∧ w.cell? ⟨g, 6, none⟩ = some (.int .i64 (lo 3)) ∧ w.cell? ⟨g, 7, none⟩ = some (.int .i64 (hi 3)) ∧ (∀ o, w.frozen? ⟨g, o, none⟩ = false) ∧ g < w.heap.size := by
  rw [xarr_def] at h
  exact ⟨h.cell 0, h.cell 1, h.cell 2, h.cell 3, h.cell 4, h.cell 5, h.cell 6, h.cell 7, h.free, h.lt⟩
/-- The first k numbers. -/
def cutf (k : Nat) (f : Nat → Int) : Nat → Int := fun i => if i < k then f i else 0
theorem barr_put (f : Nat → Int) {k : Nat} (hk : k < 4) : (barr (cutf k f)).setIfInBounds k (.int .i64 (f k)) = barr (cutf (k + 1) f) := by
  rw [barr_set _ hk]
  refine barr_congr fun i _ => ?_
  unfold up1 cutf
  by_cases h : i = k
  · subst h; simp
  · rw [if_neg h]
    by_cases h2 : i < k
    · rw [if_pos h2, if_pos (by omega)]
    · rw [if_neg h2, if_neg (by omega)]
theorem xarr_put (f g : Nat → Int) {k : Nat} (hk : k < 4) : ((xarr (cutf k f) (cutf k g)).setIfInBounds (k * 2) (.int .i64 (f k))).setIfInBounds (k * 2 + 1) (.int .i64 (g k)) = xarr (cutf (k + 1) f) (cutf (k + 1) g) := by
  rw [xarr_setlo _ _ hk, xarr_sethi _ _ hk]
  refine xarr_congr (fun i _ => ?_) (fun i _ => ?_) <;>
  · unfold up1 cutf
    by_cases h : i = k
    · subst h; simp
    · rw [if_neg h]
      by_cases h2 : i < k
      · rw [if_pos h2, if_pos (by omega)]
      · rw [if_neg h2, if_neg (by omega)]
theorem barr_cut0 (f : Nat → Int) : barr (cutf 0 f) = #[.int .i64 0, .int .i64 0, .int .i64 0, .int .i64 0] := by rw [barr_def]; rfl
theorem barr_cut4 (f : Nat → Int) : barr (cutf 4 f) = barr f := barr_congr fun i hi => by simp [cutf, hi]
theorem xarr_cut0 (f g : Nat → Int) : xarr (cutf 0 f) (cutf 0 g) = #[.int .i64 0, .int .i64 0, .int .i64 0, .int .i64 0, .int .i64 0, .int .i64 0, .int .i64 0, .int .i64 0] := by rw [xarr_def]; rfl
theorem xarr_cut4 (f g : Nat → Int) : xarr (cutf 4 f) (cutf 4 g) = xarr f g := xarr_congr (fun i hi => by simp [cutf, hi]) (fun i hi => by simp [cutf, hi])
set_option maxRecDepth 100000 in
set_option maxHeartbeats 2000000 in
theorem least_any (lo hi : Nat → Int) (w : World) :
    Calls Try.prog 85 #[.agg (xarr lo hi)] w fun e w' => e = .returned (.agg (barr lo)) ∧ Below w.heap.size w w' := by
  have K1 := ((Bx.new w 91 (xarr lo hi)).alloc (.cells (barr (cutf 0 lo)) 81)).alloc (.cells (barr (cutf 0 lo)) 81)
  have K2 := (Bx.at (w.alloc (.cells (xarr lo hi) 91)) 81 (barr (cutf 0 lo)) (n := w.heap.size + 1) (by simp)).alloc (.cells (barr (cutf 0 lo)) 81)
  have K3 := Bx.at ((w.alloc (.cells (xarr lo hi) 91)).alloc (.cells (barr (cutf 0 lo)) 81)) 81 (barr (cutf 0 lo)) (n := w.heap.size + 1 + 1) (by simp)
  have B0 := (((Below.refl w.heap.size w).alloc (Nat.le_refl _) (.cells (xarr lo hi) 91)).alloc (by simp) (.cells (barr (cutf 0 lo)) 81)).alloc (by simp; omega) (.cells (barr (cutf 0 lo)) 81)
  obtain ⟨W1, hW1⟩ : ∃ W1, ((w.alloc (.cells (xarr lo hi) 91)).alloc (.cells (barr (cutf 0 lo)) 81)).alloc (.cells (barr (cutf 0 lo)) 81) = W1 := ⟨_, rfl⟩
  rw [hW1] at K1 K2 K3 B0
  rw [barr_cut0] at hW1
  have HW := Lib.hid hW1
  clear hW1
  obtain ⟨p0, p1, p2, p3, p4, p5, p6, p7, pf, pz⟩ := K1.xarr
  go_enter Try.func85, Try.ntmps85
  go_wp2_with ((with_reducible (show wpList _ _ _ (⟨some 6, _, _, _, _, _⟩ :: _) _ _)); rw [HW.out])
  clear p0 p1 p2 p3 p4 p5 p6 p7 pf pz HW
  go_loopw [7] (fun i wr => ∃ (k : Nat) (z : Int), k ≤ 4 ∧ z = k ∧ i = .int .i64 z ∧ Bx wr (w.heap.size + 1) 81 (barr (cutf 0 lo)) ∧ Bx wr (w.heap.size + 1 + 1) 81 (barr (cutf k lo)) ∧ Below w.heap.size w wr) (fun i _ => 4 - (intOf i).toNat)
  case atStart => exact ⟨0, 0, by omega, rfl, rfl, K2, K3, B0⟩
  case round =>
    clear K1 K2 K3 B0
    obtain ⟨k, z, hk, hz, rfl, k2, k3, hB⟩ := hrel
    have hs3 := k3.lt
    rcases (show k = 0 ∨ k = 1 ∨ k = 2 ∨ k = 3 ∨ k = 4 by omega) with rfl | rfl | rfl | rfl | rfl
    · obtain rfl : z = 0 := hz
      have hx : ∀ w, (Instr.index 91 (.agg #[.int .i64 (lo 0), .int .i64 (hi 0), .int .i64 (lo 1), .int .i64 (hi 1), .int .i64 (lo 2), .int .i64 (hi 2), .int .i64 (lo 3), .int .i64 (hi 3)]) (.int .i64 0)).run Try.prog w = .ok (.agg #[.int .i64 (lo 0), .int .i64 (hi 0)]) w := fun _ => by kernel_rfl
      obtain ⟨b0, b1, b2, b3, bf, bz⟩ := k3.barr
      go_wp2_with fail
      go_roundw
      case rel => exact ⟨1, 1, by omega, rfl, rfl, (k2.far (p := ⟨w.heap.size + 1 + 1, 0, none⟩) (by simp) _).alloc _, (by have h := k3.set_ 0 (.int .i64 (lo 0)); rw [barr_put _ (by decide)] at h; exact h.alloc _), (hB.setCell (by simp; omega) _).alloc (hB.setCell (by simp; omega) _).size _⟩
      case measure => simp [intOf]
    · obtain rfl : z = 1 := hz
      have hx : ∀ w, (Instr.index 91 (.agg #[.int .i64 (lo 0), .int .i64 (hi 0), .int .i64 (lo 1), .int .i64 (hi 1), .int .i64 (lo 2), .int .i64 (hi 2), .int .i64 (lo 3), .int .i64 (hi 3)]) (.int .i64 1)).run Try.prog w = .ok (.agg #[.int .i64 (lo 1), .int .i64 (hi 1)]) w := fun _ => by kernel_rfl
      obtain ⟨b0, b1, b2, b3, bf, bz⟩ := k3.barr
      go_wp2_with fail
      go_roundw
      case rel => exact ⟨2, 2, by omega, rfl, rfl, (k2.far (p := ⟨w.heap.size + 1 + 1, 1, none⟩) (by simp) _).alloc _, (by have h := k3.set_ 1 (.int .i64 (lo 1)); rw [barr_put _ (by decide)] at h; exact h.alloc _), (hB.setCell (by simp; omega) _).alloc (hB.setCell (by simp; omega) _).size _⟩
      case measure => simp [intOf]
    · obtain rfl : z = 2 := hz
      have hx : ∀ w, (Instr.index 91 (.agg #[.int .i64 (lo 0), .int .i64 (hi 0), .int .i64 (lo 1), .int .i64 (hi 1), .int .i64 (lo 2), .int .i64 (hi 2), .int .i64 (lo 3), .int .i64 (hi 3)]) (.int .i64 2)).run Try.prog w = .ok (.agg #[.int .i64 (lo 2), .int .i64 (hi 2)]) w := fun _ => by kernel_rfl
      obtain ⟨b0, b1, b2, b3, bf, bz⟩ := k3.barr
      go_wp2_with fail
      go_roundw
      case rel => exact ⟨3, 3, by omega, rfl, rfl, (k2.far (p := ⟨w.heap.size + 1 + 1, 2, none⟩) (by simp) _).alloc _, (by have h := k3.set_ 2 (.int .i64 (lo 2)); rw [barr_put _ (by decide)] at h; exact h.alloc _), (hB.setCell (by simp; omega) _).alloc (hB.setCell (by simp; omega) _).size _⟩
      case measure => simp [intOf]
    · obtain rfl : z = 3 := hz
      have hx : ∀ w, (Instr.index 91 (.agg #[.int .i64 (lo 0), .int .i64 (hi 0), .int .i64 (lo 1), .int .i64 (hi 1), .int .i64 (lo 2), .int .i64 (hi 2), .int .i64 (lo 3), .int .i64 (hi 3)]) (.int .i64 3)).run Try.prog w = .ok (.agg #[.int .i64 (lo 3), .int .i64 (hi 3)]) w := fun _ => by kernel_rfl
      obtain ⟨b0, b1, b2, b3, bf, bz⟩ := k3.barr
      go_wp2_with fail
      go_roundw
      case rel => exact ⟨4, 4, by omega, rfl, rfl, (k2.far (p := ⟨w.heap.size + 1 + 1, 3, none⟩) (by simp) _).alloc _, (by have h := k3.set_ 3 (.int .i64 (lo 3)); rw [barr_put _ (by decide)] at h; exact h.alloc _), (hB.setCell (by simp; omega) _).alloc (hB.setCell (by simp; omega) _).size _⟩
      case measure => simp [intOf]
    · obtain rfl : z = 4 := hz
      obtain ⟨a0, a1, a2, a3, af, az⟩ := k2.barr
      rw [barr_cut4] at k3
      obtain ⟨b0, b1, b2, b3, bf, bz⟩ := k3.barr
      go_wp2_with fail
      refine bodyPost_ret (v := .agg #[.int .i64 (lo 0), .int .i64 (lo 1), .int .i64 (lo 2), .int .i64 (lo 3)]) (by simp [results, Try.results85, go_sem, a0, a1, a2, a3, af, b0, b1, b2, b3, bf]) rfl ⟨by rw [barr_def], ?_⟩
      exact (((hB.setCell (by simp) _).setCell (by simp) _).setCell (by simp) _).setCell (by simp) _
set_option maxRecDepth 100000 in
set_option maxHeartbeats 2000000 in
theorem greatest_any (lo hi : Nat → Int) (w : World) :
    Calls Try.prog 108 #[.agg (xarr lo hi)] w fun e w' => e = .returned (.agg (barr hi)) ∧ Below w.heap.size w w' := by
  have K1 := ((Bx.new w 91 (xarr lo hi)).alloc (.cells (barr (cutf 0 hi)) 81)).alloc (.cells (barr (cutf 0 hi)) 81)
  have K2 := (Bx.at (w.alloc (.cells (xarr lo hi) 91)) 81 (barr (cutf 0 hi)) (n := w.heap.size + 1) (by simp)).alloc (.cells (barr (cutf 0 hi)) 81)
  have K3 := Bx.at ((w.alloc (.cells (xarr lo hi) 91)).alloc (.cells (barr (cutf 0 hi)) 81)) 81 (barr (cutf 0 hi)) (n := w.heap.size + 1 + 1) (by simp)
  have B0 := (((Below.refl w.heap.size w).alloc (Nat.le_refl _) (.cells (xarr lo hi) 91)).alloc (by simp) (.cells (barr (cutf 0 hi)) 81)).alloc (by simp; omega) (.cells (barr (cutf 0 hi)) 81)
  obtain ⟨W1, hW1⟩ : ∃ W1, ((w.alloc (.cells (xarr lo hi) 91)).alloc (.cells (barr (cutf 0 hi)) 81)).alloc (.cells (barr (cutf 0 hi)) 81) = W1 := ⟨_, rfl⟩
  rw [hW1] at K1 K2 K3 B0
  rw [barr_cut0] at hW1
  have HW := Lib.hid hW1
  clear hW1
  obtain ⟨p0, p1, p2, p3, p4, p5, p6, p7, pf, pz⟩ := K1.xarr
  go_enter Try.func108, Try.ntmps108
  go_wp2_with ((with_reducible (show wpList _ _ _ (⟨some 6, _, _, _, _, _⟩ :: _) _ _)); rw [HW.out])
  clear p0 p1 p2 p3 p4 p5 p6 p7 pf pz HW
  go_loopw [7] (fun i wr => ∃ (k : Nat) (z : Int), k ≤ 4 ∧ z = k ∧ i = .int .i64 z ∧ Bx wr (w.heap.size + 1) 81 (barr (cutf 0 hi)) ∧ Bx wr (w.heap.size + 1 + 1) 81 (barr (cutf k hi)) ∧ Below w.heap.size w wr) (fun i _ => 4 - (intOf i).toNat)
  case atStart => exact ⟨0, 0, by omega, rfl, rfl, K2, K3, B0⟩
  case round =>
    clear K1 K2 K3 B0
    obtain ⟨k, z, hk, hz, rfl, k2, k3, hB⟩ := hrel
    have hs3 := k3.lt
    rcases (show k = 0 ∨ k = 1 ∨ k = 2 ∨ k = 3 ∨ k = 4 by omega) with rfl | rfl | rfl | rfl | rfl
    · obtain rfl : z = 0 := hz
      have hx : ∀ w, (Instr.index 91 (.agg #[.int .i64 (lo 0), .int .i64 (hi 0), .int .i64 (lo 1), .int .i64 (hi 1), .int .i64 (lo 2), .int .i64 (hi 2), .int .i64 (lo 3), .int .i64 (hi 3)]) (.int .i64 0)).run Try.prog w = .ok (.agg #[.int .i64 (lo 0), .int .i64 (hi 0)]) w := fun _ => by kernel_rfl
      obtain ⟨b0, b1, b2, b3, bf, bz⟩ := k3.barr
      go_wp2_with fail
      go_roundw
      case rel => exact ⟨1, 1, by omega, rfl, rfl, (k2.far (p := ⟨w.heap.size + 1 + 1, 0, none⟩) (by simp) _).alloc _, (by have h := k3.set_ 0 (.int .i64 (hi 0)); rw [barr_put _ (by decide)] at h; exact h.alloc _), (hB.setCell (by simp; omega) _).alloc (hB.setCell (by simp; omega) _).size _⟩
      case measure => simp [intOf]
    · obtain rfl : z = 1 := hz
      have hx : ∀ w, (Instr.index 91 (.agg #[.int .i64 (lo 0), .int .i64 (hi 0), .int .i64 (lo 1), .int .i64 (hi 1), .int .i64 (lo 2), .int .i64 (hi 2), .int .i64 (lo 3), .int .i64 (hi 3)]) (.int .i64 1)).run Try.prog w = .ok (.agg #[.int .i64 (lo 1), .int .i64 (hi 1)]) w := fun _ => by kernel_rfl
      obtain ⟨b0, b1, b2, b3, bf, bz⟩ := k3.barr
      go_wp2_with fail
      go_roundw
      case rel => exact ⟨2, 2, by omega, rfl, rfl, (k2.far (p := ⟨w.heap.size + 1 + 1, 1, none⟩) (by simp) _).alloc _, (by have h := k3.set_ 1 (.int .i64 (hi 1)); rw [barr_put _ (by decide)] at h; exact h.alloc _), (hB.setCell (by simp; omega) _).alloc (hB.setCell (by simp; omega) _).size _⟩
      case measure => simp [intOf]
    · obtain rfl : z = 2 := hz
      have hx : ∀ w, (Instr.index 91 (.agg #[.int .i64 (lo 0), .int .i64 (hi 0), .int .i64 (lo 1), .int .i64 (hi 1), .int .i64 (lo 2), .int .i64 (hi 2), .int .i64 (lo 3), .int .i64 (hi 3)]) (.int .i64 2)).run Try.prog w = .ok (.agg #[.int .i64 (lo 2), .int .i64 (hi 2)]) w := fun _ => by kernel_rfl
      obtain ⟨b0, b1, b2, b3, bf, bz⟩ := k3.barr
      go_wp2_with fail
      go_roundw
      case rel => exact ⟨3, 3, by omega, rfl, rfl, (k2.far (p := ⟨w.heap.size + 1 + 1, 2, none⟩) (by simp) _).alloc _, (by have h := k3.set_ 2 (.int .i64 (hi 2)); rw [barr_put _ (by decide)] at h; exact h.alloc _), (hB.setCell (by simp; omega) _).alloc (hB.setCell (by simp; omega) _).size _⟩
      case measure => simp [intOf]
    · obtain rfl : z = 3 := hz
      have hx : ∀ w, (Instr.index 91 (.agg #[.int .i64 (lo 0), .int .i64 (hi 0), .int .i64 (lo 1), .int .i64 (hi 1), .int .i64 (lo 2), .int .i64 (hi 2), .int .i64 (lo 3), .int .i64 (hi 3)]) (.int .i64 3)).run Try.prog w = .ok (.agg #[.int .i64 (lo 3), .int .i64 (hi 3)]) w := fun _ => by kernel_rfl
      obtain ⟨b0, b1, b2, b3, bf, bz⟩ := k3.barr
      go_wp2_with fail
      go_roundw
      case rel => exact ⟨4, 4, by omega, rfl, rfl, (k2.far (p := ⟨w.heap.size + 1 + 1, 3, none⟩) (by simp) _).alloc _, (by have h := k3.set_ 3 (.int .i64 (hi 3)); rw [barr_put _ (by decide)] at h; exact h.alloc _), (hB.setCell (by simp; omega) _).alloc (hB.setCell (by simp; omega) _).size _⟩
      case measure => simp [intOf]
    · obtain rfl : z = 4 := hz
      obtain ⟨a0, a1, a2, a3, af, az⟩ := k2.barr
      rw [barr_cut4] at k3
      obtain ⟨b0, b1, b2, b3, bf, bz⟩ := k3.barr
      go_wp2_with fail
      refine bodyPost_ret (v := .agg #[.int .i64 (hi 0), .int .i64 (hi 1), .int .i64 (hi 2), .int .i64 (hi 3)]) (by simp [results, Try.results108, go_sem, a0, a1, a2, a3, af, b0, b1, b2, b3, bf]) rfl ⟨by rw [barr_def], ?_⟩
      exact (((hB.setCell (by simp) _).setCell (by simp) _).setCell (by simp) _).setCell (by simp) _
set_option maxRecDepth 100000 in
set_option maxHeartbeats 2000000 in
theorem only_any (f : Nat → Int) (w : World) :
    Calls Try.prog 103 #[.agg (barr f)] w fun e w' => e = .returned (.agg (xarr f f)) ∧ Below w.heap.size w w' := by
  have K1 := ((Bx.new w 81 (barr f)).alloc (.cells (xarr (cutf 0 f) (cutf 0 f)) 91)).alloc (.cells (xarr (cutf 0 f) (cutf 0 f)) 91)
  have K2 := (Bx.at (w.alloc (.cells (barr f) 81)) 91 (xarr (cutf 0 f) (cutf 0 f)) (n := w.heap.size + 1) (by simp)).alloc (.cells (xarr (cutf 0 f) (cutf 0 f)) 91)
  have K3 := Bx.at ((w.alloc (.cells (barr f) 81)).alloc (.cells (xarr (cutf 0 f) (cutf 0 f)) 91)) 91 (xarr (cutf 0 f) (cutf 0 f)) (n := w.heap.size + 1 + 1) (by simp)
  have B0 := (((Below.refl w.heap.size w).alloc (Nat.le_refl _) (.cells (barr f) 81)).alloc (by simp) (.cells (xarr (cutf 0 f) (cutf 0 f)) 91)).alloc (by simp; omega) (.cells (xarr (cutf 0 f) (cutf 0 f)) 91)
  obtain ⟨W1, hW1⟩ : ∃ W1, ((w.alloc (.cells (barr f) 81)).alloc (.cells (xarr (cutf 0 f) (cutf 0 f)) 91)).alloc (.cells (xarr (cutf 0 f) (cutf 0 f)) 91) = W1 := ⟨_, rfl⟩
  rw [hW1] at K1 K2 K3 B0
  rw [xarr_cut0] at hW1
  have HW := Lib.hid hW1
  clear hW1
  obtain ⟨p0, p1, p2, p3, pf, pz⟩ := K1.barr
  go_enter Try.func103, Try.ntmps103
  go_wp2_with ((with_reducible (show wpList _ _ _ (⟨some 6, _, _, _, _, _⟩ :: _) _ _)); rw [HW.out])
  clear p0 p1 p2 p3 pf pz HW
  go_loopw [7] (fun i wr => ∃ (k : Nat) (z : Int), k ≤ 4 ∧ z = k ∧ i = .int .i64 z ∧ Bx wr (w.heap.size + 1) 91 (xarr (cutf 0 f) (cutf 0 f)) ∧ Bx wr (w.heap.size + 1 + 1) 91 (xarr (cutf k f) (cutf k f)) ∧ Below w.heap.size w wr) (fun i _ => 4 - (intOf i).toNat)
  case atStart => exact ⟨0, 0, by omega, rfl, rfl, K2, K3, B0⟩
  case round =>
    clear K1 K2 K3 B0
    obtain ⟨k, z, hk, hz, rfl, k2, k3, hB⟩ := hrel
    have hs3 := k3.lt
    rcases (show k = 0 ∨ k = 1 ∨ k = 2 ∨ k = 3 ∨ k = 4 by omega) with rfl | rfl | rfl | rfl | rfl
    · obtain rfl : z = 0 := hz
      have hx : ∀ w, (Instr.index 81 (.agg #[.int .i64 (f 0), .int .i64 (f 1), .int .i64 (f 2), .int .i64 (f 3)]) (.int .i64 0)).run Try.prog w = .ok (.int .i64 (f 0)) w := fun _ => by kernel_rfl
      obtain ⟨b0, b1, b2, b3, b4, b5, b6, b7, bf, bz⟩ := k3.xarr
      go_wp2_with fail
      go_roundw
      case rel => exact ⟨1, 1, by omega, rfl, rfl, (k2.far (p := ⟨w.heap.size + 1 + 1, 0, none⟩) (by simp) _).far (p := ⟨w.heap.size + 1 + 1, 1, none⟩) (by simp) _, (by have h := (k3.set_ 0 (.int .i64 (f 0))).set_ 1 (.int .i64 (f 0)); rw [xarr_put (k := 0) f f (by decide)] at h; exact h), (hB.setCell (by simp; omega) _).setCell (by simp; omega) _⟩
      case measure => simp [intOf]
    · obtain rfl : z = 1 := hz
      have hx : ∀ w, (Instr.index 81 (.agg #[.int .i64 (f 0), .int .i64 (f 1), .int .i64 (f 2), .int .i64 (f 3)]) (.int .i64 1)).run Try.prog w = .ok (.int .i64 (f 1)) w := fun _ => by kernel_rfl
      obtain ⟨b0, b1, b2, b3, b4, b5, b6, b7, bf, bz⟩ := k3.xarr
      go_wp2_with fail
      go_roundw
      case rel => exact ⟨2, 2, by omega, rfl, rfl, (k2.far (p := ⟨w.heap.size + 1 + 1, 2, none⟩) (by simp) _).far (p := ⟨w.heap.size + 1 + 1, 3, none⟩) (by simp) _, (by have h := (k3.set_ 2 (.int .i64 (f 1))).set_ 3 (.int .i64 (f 1)); rw [xarr_put (k := 1) f f (by decide)] at h; exact h), (hB.setCell (by simp; omega) _).setCell (by simp; omega) _⟩
      case measure => simp [intOf]
    · obtain rfl : z = 2 := hz
      have hx : ∀ w, (Instr.index 81 (.agg #[.int .i64 (f 0), .int .i64 (f 1), .int .i64 (f 2), .int .i64 (f 3)]) (.int .i64 2)).run Try.prog w = .ok (.int .i64 (f 2)) w := fun _ => by kernel_rfl
      obtain ⟨b0, b1, b2, b3, b4, b5, b6, b7, bf, bz⟩ := k3.xarr
      go_wp2_with fail
      go_roundw
      case rel => exact ⟨3, 3, by omega, rfl, rfl, (k2.far (p := ⟨w.heap.size + 1 + 1, 4, none⟩) (by simp) _).far (p := ⟨w.heap.size + 1 + 1, 5, none⟩) (by simp) _, (by have h := (k3.set_ 4 (.int .i64 (f 2))).set_ 5 (.int .i64 (f 2)); rw [xarr_put (k := 2) f f (by decide)] at h; exact h), (hB.setCell (by simp; omega) _).setCell (by simp; omega) _⟩
      case measure => simp [intOf]
    · obtain rfl : z = 3 := hz
      have hx : ∀ w, (Instr.index 81 (.agg #[.int .i64 (f 0), .int .i64 (f 1), .int .i64 (f 2), .int .i64 (f 3)]) (.int .i64 3)).run Try.prog w = .ok (.int .i64 (f 3)) w := fun _ => by kernel_rfl
      obtain ⟨b0, b1, b2, b3, b4, b5, b6, b7, bf, bz⟩ := k3.xarr
      go_wp2_with fail
      go_roundw
      case rel => exact ⟨4, 4, by omega, rfl, rfl, (k2.far (p := ⟨w.heap.size + 1 + 1, 6, none⟩) (by simp) _).far (p := ⟨w.heap.size + 1 + 1, 7, none⟩) (by simp) _, (by have h := (k3.set_ 6 (.int .i64 (f 3))).set_ 7 (.int .i64 (f 3)); rw [xarr_put (k := 3) f f (by decide)] at h; exact h), (hB.setCell (by simp; omega) _).setCell (by simp; omega) _⟩
      case measure => simp [intOf]
    · obtain rfl : z = 4 := hz
      obtain ⟨a0, a1, a2, a3, a4, a5, a6, a7, af, az⟩ := k2.xarr
      rw [xarr_cut4] at k3
      obtain ⟨b0, b1, b2, b3, b4, b5, b6, b7, bf, bz⟩ := k3.xarr
      go_wp2_with fail
      refine bodyPost_ret (v := .agg #[.int .i64 (f 0), .int .i64 (f 0), .int .i64 (f 1), .int .i64 (f 1), .int .i64 (f 2), .int .i64 (f 2), .int .i64 (f 3), .int .i64 (f 3)]) (by simp [results, Try.results103, go_sem, a0, a1, a2, a3, a4, a5, a6, a7, af, b0, b1, b2, b3, b4, b5, b6, b7, bf]) rfl ⟨by rw [xarr_def], ?_⟩
      exact (((((((hB.setCell (by simp) _).setCell (by simp) _).setCell (by simp) _).setCell (by simp) _).setCell (by simp) _).setCell (by simp) _).setCell (by simp) _).setCell (by simp) _
end Go.Proofs.Ytmemcopfeabcgaa
