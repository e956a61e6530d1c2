/- Rows of pairs of numbers: the cells of a list of tallies, as a function of the pair's place. -/
import Derived.Test.YtgbogdckmfencaaCopy
set_option linter.unusedSimpArgs false
set_option linter.unusedVariables false
namespace Go.Proofs.Ytgbogdckmfencaa
open Go.RowKit
/-- The cells of m pairs. -/
def parr (m : Nat) (f : Nat → Int × Int) : Array Value := Array.ofFn (n := 2 * m) fun j => if j.val % 2 = 0 then .int .i64 (f (j.val / 2)).1 else .int .i64 (f (j.val / 2)).2
theorem parr_fst (m : Nat) (f : Nat → Int × Int) {i j : Nat} (hi : i < m) (hj : j = i * 2) : (parr m f)[j]? = some (.int .i64 (f i).1) := by
  subst hj
  unfold parr; rw [Array.getElem?_ofFn, dif_pos (by omega)]
  simp [show i * 2 % 2 = 0 by omega, show i * 2 / 2 = i by omega]
theorem parr_snd (m : Nat) (f : Nat → Int × Int) {i j : Nat} (hi : i < m) (hj : j = i * 2 + 1) : (parr m f)[j]? = some (.int .i64 (f i).2) := by
  subst hj
  unfold parr; rw [Array.getElem?_ofFn, dif_pos (by omega)]
  simp [show (i * 2 + 1) % 2 = 1 by omega, show (i * 2 + 1) / 2 = i by omega]
theorem parr_set (m : Nat) (f : Nat → Int × Int) {i j : Nat} (hi : i < m) (hj : j = i * 2) (a b : Int) : ((parr m f).setIfInBounds j (.int .i64 a)).setIfInBounds (j + 1) (.int .i64 b) = parr m (upd f i (a, b)) := by
  subst hj
  apply Array.ext
  · simp [parr]
  · intro j h1 h2
    have hj : j < 2 * m := by simpa [parr] using h2
    rw [Array.getElem_setIfInBounds (by simpa [parr] using hj)]
    by_cases e1 : i * 2 + 1 = j
    · subst e1
      simp [parr, upd, show (i * 2 + 1) % 2 = 1 by omega, show (i * 2 + 1) / 2 = i by omega]
    · rw [if_neg e1, Array.getElem_setIfInBounds (by simpa [parr] using hj)]
      by_cases e2 : i * 2 = j
      · subst e2
        simp [parr, upd, show i * 2 % 2 = 0 by omega, show i * 2 / 2 = i by omega]
      · rw [if_neg e2]
        simp [parr, upd, show ¬ j / 2 = i by omega]
theorem parr_made (m : Nat) (z : Array Value) (hz : z.size = 802) (h0 : ∀ i, i < 802 → z[i]? = some (.int .i64 0)) : madeCells z (m * 802) = parr (m * 401) fun _ => (0, 0) := by
  apply Array.ext
  · simp [madeCells, parr]; omega
  · intro j h1 h2
    have hj : j % 802 < 802 := Nat.mod_lt _ (by omega)
    have hg := h0 _ hj
    simp only [madeCells, parr, Array.getElem_map, Array.getElem_range, Array.getElem_ofFn, hz]
    rw [getElem!_def, hg]
    simp
attribute [irreducible] parr
end Go.Proofs.Ytgbogdckmfencaa
