/- Plain mathematics for the statements about logs that are made: which events fit, logs cut short, an event that shows otherwise. -/
import Derived.Test.YtgbogdckmfencaaMd
import Derived.Test.YtgbogdckmfencaaLp
set_option linter.unusedSimpArgs false
set_option linter.unusedVariables false
namespace Go.Proofs.Ytgbogdckmfencaa
open Go Go.RowKit
theorem fits_some (st z0 z1 : Int) (es : List Ev) : ∃ m, Fits st z0 z1 es m := by
  have : ∀ d m, m + d = es.length → (∀ j, j < m → (bef st z0 z1 es (j + 1)).1 ≤ (bef st z0 z1 es (j + 1)).2) → ∃ m, Fits st z0 z1 es m := by
    intro d
    induction d with
    | zero => intro m hm hy; exact ⟨m, by omega, hy, fun h => by omega⟩
    | succ d ih =>
      intro m hm hy
      by_cases h : (bef st z0 z1 es (m + 1)).1 ≤ (bef st z0 z1 es (m + 1)).2
      · refine ih (m + 1) (by omega) fun j hj => ?_
        by_cases hjm : j = m
        · subst hjm; exact h
        · exact hy j (by omega)
      · exact ⟨m, by omega, hy, fun _ => by omega⟩
  exact this es.length 0 (by omega) (fun j hj => by omega)
theorem Sl.take {w : World} {B s : Nat} {A : Option Addr} {xs : List (List Value)} (h : Sl w B s A xs) (m : Nat) : Sl w B s A (xs.take m) := fun k r hr => by
  rw [List.getElem?_take] at hr
  split at hr
  · exact h k r hr
  · cases hr
theorem EvsAt.take {w : World} {B : Nat} {A : Option Addr} {es : List Ev} (h : EvsAt w B A es) (m : Nat) : EvsAt w B A (es.take m) := by
  unfold EvsAt at h ⊢
  rw [List.map_take]
  exact Sl.take h m
theorem flatten_set {s : Nat} : ∀ (xs : List (List Value)) (_ : ∀ r ∈ xs, r.length = s) (i j : Nat) (r : List Value) (u : Value), xs[i]? = some r → j < s → xs.flatten.set (i * s + j) u = (xs.set i (r.set j u)).flatten
  | [], _, i, j, r, u, h, _ => by simp at h
  | x :: xs, hs, 0, j, r, u, h, hj => by
    obtain rfl : x = r := by simpa using h
    have hx := hs x (by simp)
    rw [List.flatten_cons, Nat.zero_mul, Nat.zero_add, List.set_append_left _ _ (by omega)]
    simp
  | x :: xs, hs, i + 1, j, r, u, h, hj => by
    have hx := hs x (by simp)
    have h' : xs[i]? = some r := by simpa using h
    rw [List.flatten_cons, List.set_append_right _ _ (by rw [hx, Nat.succ_mul]; omega), hx, show (i + 1) * s + j - s = i * s + j by rw [Nat.succ_mul]; omega, flatten_set xs (fun r hr => hs r (by simp [hr])) i j r u h' hj]
    simp
/-- A store into a row of one's own. -/
theorem own_store {w : World} {b : Nat} {e : TypeId} {s q n cap : Nat} {xs : List Value} (h : w.ownsRow b e s (.slice (some ⟨q, 0, none⟩) n cap) n xs) (j : Nat) (u : Value) (hj : j < n * s) : (w.setCell ⟨q, j, none⟩ u).ownsRow b e s (.slice (some ⟨q, 0, none⟩) n cap) n (xs.set j u) := by
  refine ⟨by rw [List.length_set]; exact h.1, ?_⟩
  rcases h.2 with ⟨h1, _⟩ | ⟨g, c, cur, h1, hb, hg, hc, hm, hs, ht⟩
  · simp at h1
  · simp only [Value.slice.injEq, Option.some.injEq, Addr.mk.injEq, and_true, true_and] at h1
    obtain ⟨rfl, rfl⟩ := h1
    have k : Bx (w.setCell ⟨q, j, none⟩ u) q e (cur.setIfInBounds j u) := Bx.set_ (show Bx w q e cur from hg) j u
    refine .inr ⟨q, cap, _, rfl, hb, k, hc, hm, by simpa using hs, ?_⟩
    rw [Array.toList_setIfInBounds, ← ht, ← List.take_set]
theorem evs_len (es : List Ev) : ∀ r ∈ es.map Ev.cells, r.length = 5 := by
  intro r hr
  obtain ⟨e, _, rfl⟩ := List.mem_map.1 hr
  rfl
theorem evs_flat (es : List Ev) : (es.map Ev.cells).flatten.length = es.length * 5 := by
  induction es with
  | nil => rfl
  | cons a r ih => rw [List.map_cons, List.flatten_cons, List.length_append, ih, List.length_cons, Nat.succ_mul]; simp [Ev.cells]; omega
theorem evs_set_sh (es : List Ev) (i : Nat) (e : Ev) (h : es[i]? = some e) (s : Int) : (es.map Ev.cells).flatten.set (i * 5 + 1) (.int .i64 s) = ((es.set i { e with sh := s }).map Ev.cells).flatten := by
  rw [flatten_set (es.map Ev.cells) (evs_len es) i 1 e.cells _ (by simp [h]) (by omega), List.map_set]
  rfl
end Go.Proofs.Ytgbogdckmfencaa
