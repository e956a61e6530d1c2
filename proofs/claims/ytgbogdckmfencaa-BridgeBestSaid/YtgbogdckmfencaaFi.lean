/- Plain mathematics for the statements about logs that are made: which events fit, logs cut short, an event that shows otherwise. -/
import Derived.Test.YtgbogdckmfencaaMd
import Derived.Test.YtgbogdckmfencaaLp
set_option linter.unusedSimpArgs false
set_option linter.unusedVariables false
namespace Go.Proofs.Ytgbogdckmfencaa
open Go Go.RowKit
theorem bef_take (st z0 z1 : Int) (es : List Ev) (m : Nat) : ∀ k, k ≤ m → bef st z0 z1 (es.take m) k = bef st z0 z1 es k := by
  intro k
  induction k with
  | zero => intro _; rfl
  | succ k ih =>
    intro hk
    rw [bef, bef, ih (by omega), List.getElem?_take_of_lt (by omega)]
theorem fits_some (st z0 z1 : Int) (es : List Ev) : ∃ m, Fits st z0 z1 es m := by
  have : ∀ d m, m + d = es.length → (∀ j, j < m → (bef st z0 z1 es (j + 1)).1 ≤ (bef st z0 z1 es (j + 1)).2) → ∃ m, Fits st z0 z1 es m := by
    intro d
    induction d with
    | zero => intro m hm hy; exact ⟨m, by omega, hy, fun h => by omega⟩
    | succ d ih =>
      intro m hm hy
      by_cases h : (bef st z0 z1 es (m + 1)).1 ≤ (bef st z0 z1 es (m + 1)).2
      · refine ih (m + 1) (by omega) fun j hj => ?_
        by_cases hjm : j = m
        · subst hjm; exact h
        · exact hy j (by omega)
      · exact ⟨m, by omega, hy, fun _ => by omega⟩
  exact this es.length 0 (by omega) (fun j hj => by omega)
theorem fits_take {st z0 z1 : Int} {es : List Ev} {m : Nat} (h : Fits st z0 z1 es m) : Fits st z0 z1 (es.take m) m :=
  ⟨by rw [List.length_take]; have := h.le; omega, fun j hj => by rw [bef_take _ _ _ _ _ _ (by omega)]; exact h.yes j hj, fun hlt => by rw [List.length_take] at hlt; omega⟩
theorem fits_take1 {st z0 z1 : Int} {es : List Ev} {m : Nat} (h : Fits st z0 z1 es m) (hm : m < es.length) : Fits st z0 z1 (es.take (m + 1)) m :=
  ⟨by rw [List.length_take]; omega, fun j hj => by rw [bef_take _ _ _ _ _ _ (by omega)]; exact h.yes j hj, fun _ => by rw [bef_take _ _ _ _ _ _ (by omega)]; exact h.no hm⟩
theorem ckEs_mem {st : Int} {es : List Ev} : ckEs st es = 0 ↔ ∀ e ∈ es, ckE st e = 0 := ⟨ckEs_zero, ckEs_all⟩
theorem ckL_iff {st z0 z1 : Int} {es : List Ev} : ckL st z0 z1 es = 0 ↔ 1 ≤ st ∧ st ≤ 100 ∧ ckR z0 z1 (-200) 200 = 0 ∧ es.length ≤ 14 ∧ ∀ e ∈ es, ckE st e = 0 := by
  constructor
  · intro h
    have hl := ckL_zero h
    unfold ckL at h
    rw [if_neg (by have := hl.s1; have := hl.s2; omega)] at h
    split at h
    · rename_i h0; exact absurd h h0
    · rename_i h0
      split at h
      · cases h
      · exact ⟨hl.s1, hl.s2, Classical.not_not.1 h0, hl.n, ckEs_mem.1 h⟩
  · rintro ⟨h1, h2, h3, h4, h5⟩
    unfold ckL
    rw [if_neg (by omega), if_neg (by rw [h3]; simp), if_neg (by omega)]
    exact ckEs_mem.2 h5
theorem ckL_take {st z0 z1 : Int} {es : List Ev} (h : ckL st z0 z1 es = 0) (m : Nat) : ckL st z0 z1 (es.take m) = 0 := by
  rw [ckL_iff] at h ⊢
  obtain ⟨h1, h2, h3, h4, h5⟩ := h
  exact ⟨h1, h2, h3, by rw [List.length_take]; omega, fun e he => h5 e (List.mem_of_mem_take he)⟩
theorem ckL_set {st z0 z1 : Int} {es : List Ev} (h : ckL st z0 z1 es = 0) (i : Nat) {e : Ev} (he : ckE st e = 0) : ckL st z0 z1 (es.set i e) = 0 := by
  rw [ckL_iff] at h ⊢
  obtain ⟨h1, h2, h3, h4, h5⟩ := h
  exact ⟨h1, h2, h3, by rw [List.length_set]; omega, fun x hx => by
    rcases List.mem_or_eq_of_mem_set hx with hx | rfl
    · exact h5 x hx
    · exact he⟩
/-- An event that shows some steps more, or fewer. -/
theorem ckE_more {st : Int} {e : Ev} (h : ckE st e = 0) (d : Int) (h1 : -60000 ≤ e.sh + d * st) (h2 : e.sh + d * st ≤ 60000) : ckE st { e with sh := e.sh + d * st } = 0 := by
  unfold ckE at h ⊢
  dsimp only
  split at h
  · cases h
  · rename_i h0
    rw [if_neg h0]
    split at h
    · cases h
    · split at h
      · cases h
      · rename_i h1' h2'
        have hm : (e.sh + d * st).tmod st = 0 := by
          have h3 : e.sh.tmod st = 0 := Classical.not_not.1 h2'
          exact Int.tmod_eq_zero_of_dvd (Int.dvd_add (Int.dvd_of_tmod_eq_zero h3) (Int.dvd_mul_left d st))
        rw [if_neg (by omega), if_neg (by rw [hm]; simp)]
        exact h
theorem made_sh {st z0 z1 ld : Int} {ts : List (Ev × Int × Int)} {z : Int} (h : Made st z0 z1 ld ts z) (hs1 : 1 ≤ st) (hs2 : st ≤ 100) (h0 : -9 ≤ z0) (h1 : z1 ≤ 9) (hn : ts.length ≤ 14) : ∀ e ∈ evsOf ts, -400 ≤ e.sh ∧ e.sh ≤ ld + 400 := by
  intro e he
  obtain ⟨p, hp, rfl⟩ := List.mem_map.1 he
  obtain ⟨k1, k2, k3⟩ := h.all h0 h1 hn p hp
  have hb := shows_bd (n := p.2.2) (z := p.2.1) hs1
  have := k1.sh; have := k1.n0; have := k1.n1
  omega
theorem Sl.take {w : World} {B s : Nat} {A : Option Addr} {xs : List (List Value)} (h : Sl w B s A xs) (m : Nat) : Sl w B s A (xs.take m) := fun k r hr => by
  rw [List.getElem?_take] at hr
  split at hr
  · exact h k r hr
  · cases hr
theorem EvsAt.take {w : World} {B : Nat} {A : Option Addr} {es : List Ev} (h : EvsAt w B A es) (m : Nat) : EvsAt w B A (es.take m) := by
  unfold EvsAt at h ⊢
  rw [List.map_take]
  exact Sl.take h m
theorem flatten_set {s : Nat} : ∀ (xs : List (List Value)) (_ : ∀ r ∈ xs, r.length = s) (i j : Nat) (r : List Value) (u : Value), xs[i]? = some r → j < s → xs.flatten.set (i * s + j) u = (xs.set i (r.set j u)).flatten
  | [], _, i, j, r, u, h, _ => by simp at h
  | x :: xs, hs, 0, j, r, u, h, hj => by
    obtain rfl : x = r := by simpa using h
    have hx := hs x (by simp)
    rw [List.flatten_cons, Nat.zero_mul, Nat.zero_add, List.set_append_left _ _ (by omega)]
    simp
  | x :: xs, hs, i + 1, j, r, u, h, hj => by
    have hx := hs x (by simp)
    have h' : xs[i]? = some r := by simpa using h
    rw [List.flatten_cons, List.set_append_right _ _ (by rw [hx, Nat.succ_mul]; omega), hx, show (i + 1) * s + j - s = i * s + j by rw [Nat.succ_mul]; omega, flatten_set xs (fun r hr => hs r (by simp [hr])) i j r u h' hj]
    simp
/-- A store into a row of one's own. -/
theorem own_store {w : World} {b : Nat} {e : TypeId} {s q n cap : Nat} {xs : List Value} (h : w.ownsRow b e s (.slice (some ⟨q, 0, none⟩) n cap) n xs) (j : Nat) (u : Value) (hj : j < n * s) : (w.setCell ⟨q, j, none⟩ u).ownsRow b e s (.slice (some ⟨q, 0, none⟩) n cap) n (xs.set j u) := by
  refine ⟨by rw [List.length_set]; exact h.1, ?_⟩
  rcases h.2 with ⟨h1, _⟩ | ⟨g, c, cur, h1, hb, hg, hc, hm, hs, ht⟩
  · simp at h1
  · simp only [Value.slice.injEq, Option.some.injEq, Addr.mk.injEq, and_true, true_and] at h1
    obtain ⟨rfl, rfl⟩ := h1
    have k : Bx (w.setCell ⟨q, j, none⟩ u) q e (cur.setIfInBounds j u) := Bx.set_ (show Bx w q e cur from hg) j u
    refine .inr ⟨q, cap, _, rfl, hb, k, hc, hm, by simpa using hs, ?_⟩
    rw [Array.toList_setIfInBounds, ← ht, ← List.take_set]
theorem evs_len (es : List Ev) : ∀ r ∈ es.map Ev.cells, r.length = 5 := by
  intro r hr
  obtain ⟨e, _, rfl⟩ := List.mem_map.1 hr
  rfl
theorem evs_flat (es : List Ev) : (es.map Ev.cells).flatten.length = es.length * 5 := by
  induction es with
  | nil => rfl
  | cons a r ih => rw [List.map_cons, List.flatten_cons, List.length_append, ih, List.length_cons, Nat.succ_mul]; simp [Ev.cells]; omega
theorem evs_set_sh (es : List Ev) (i : Nat) (e : Ev) (h : es[i]? = some e) (s : Int) : (es.map Ev.cells).flatten.set (i * 5 + 1) (.int .i64 s) = ((es.set i { e with sh := s }).map Ev.cells).flatten := by
  rw [flatten_set (es.map Ev.cells) (evs_len es) i 1 e.cells _ (by simp [h]) (by omega), List.map_set]
  rfl
end Go.Proofs.Ytgbogdckmfencaa
