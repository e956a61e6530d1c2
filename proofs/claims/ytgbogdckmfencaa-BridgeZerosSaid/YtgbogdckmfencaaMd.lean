/- Logs that are made with a fact: they are valid, and their zeros fit. Nothing of the program. -/
import Derived.Test.YtgbogdckmfencaaMath
import Derived.Test.YtgbogdckmfencaaKf
set_option linter.unusedSimpArgs false
set_option linter.unusedVariables false
namespace Go.Proofs.Ytgbogdckmfencaa
structure EvMade (st ld : Int) (e : Ev) (z n : Int) : Prop where
  kd : e.kd = 1 ∨ e.kd = 2 ∨ e.kd = 3
  c0 : -3 ≤ e.c0
  c1 : e.c0 ≤ e.c1
  c2 : e.c1 ≤ 4
  n0 : 0 ≤ n
  n1 : n ≤ ld
  k1 : e.kd = 1 → n = 0
  ld_ : e.ld = if e.kd = 2 then n else 0
  sh : e.sh = shows st n z
/-- A log of these events was made with these zeros and loads; the last zero. -/
inductive Made (st z0 z1 ld : Int) : List (Ev × Int × Int) → Int → Prop
  | nil (z : Int) (h1 : z0 ≤ z) (h2 : z ≤ z1) : Made st z0 z1 ld [] z
  | snoc (ts : List (Ev × Int × Int)) (z : Int) (e : Ev) (z' n : Int) (h : Made st z0 z1 ld ts z) (he : EvMade st ld e z' n) (h1 : z + e.c0 ≤ z') (h2 : z' ≤ z + e.c1) : Made st z0 z1 ld (ts ++ [(e, z', n)]) z'
def evsOf (ts : List (Ev × Int × Int)) : List Ev := ts.map (·.1)
theorem Made.bd {st z0 z1 ld : Int} {ts : List (Ev × Int × Int)} {z : Int} (h : Made st z0 z1 ld ts z) (h0 : -9 ≤ z0) (h1 : z1 ≤ 9) : -9 - 3 * (ts.length : Int) ≤ z ∧ z ≤ 9 + 4 * (ts.length : Int) := by
  induction h with
  | nil z a b => simp; omega
  | snoc ts z e z' n h he a b ih =>
    have := he.c0; have := he.c2
    rw [List.length_append, List.length_singleton]
    push_cast
    omega
theorem shows_bd {st n z : Int} (h : 1 ≤ st) : shows st n z ≤ n + z + st / 2 ∧ n + z + st / 2 - st < shows st n z := by
  have b1 := Int.emod_nonneg (n + z + st / 2) (show st ≠ 0 by omega)
  have b2 := Int.emod_lt_of_pos (n + z + st / 2) (show 0 < st by omega)
  unfold shows
  omega
theorem Made.all {st z0 z1 ld : Int} {ts : List (Ev × Int × Int)} {z : Int} (h : Made st z0 z1 ld ts z) (h0 : -9 ≤ z0) (h1 : z1 ≤ 9) (hn : ts.length ≤ 14) : ∀ p ∈ ts, EvMade st ld p.1 p.2.1 p.2.2 ∧ -200 ≤ p.2.1 ∧ p.2.1 ≤ 200 := by
  induction h with
  | nil z a b => intro p hp; cases hp
  | snoc ts z e z' n h he a b ih =>
    intro p hp
    rw [List.length_append, List.length_singleton] at hn
    have hb := (Made.snoc ts z e z' n h he a b).bd h0 h1
    rw [List.length_append, List.length_singleton] at hb
    rcases List.mem_append.1 hp with hp | hp
    · exact ih (by omega) p hp
    · obtain rfl : p = (e, z', n) := by simpa using hp
      refine ⟨he, ?_, ?_⟩ <;> (push_cast at hb; dsimp only; omega)
theorem bef_pre (st z0 z1 : Int) (es : List Ev) (e : Ev) : ∀ k, k ≤ es.length → bef st z0 z1 (es ++ [e]) k = bef st z0 z1 es k := by
  intro k
  induction k with
  | zero => intro _; rfl
  | succ k ih =>
    intro hk
    rw [bef, bef, ih (by omega), List.getElem?_append_left (by omega)]
theorem bef_last (st z0 z1 : Int) (es : List Ev) (e : Ev) : bef st z0 z1 (es ++ [e]) (es.length + 1) = stepR st (bef st z0 z1 es es.length) e := by
  rw [bef, bef_pre _ _ _ _ _ _ (Nat.le_refl _)]
  simp
theorem Made.fits {st z0 z1 ld : Int} {ts : List (Ev × Int × Int)} {z : Int} (h : Made st z0 z1 ld ts z) (hs1 : 1 ≤ st) (h0 : -9 ≤ z0) (h1 : z1 ≤ 9) (hn : ts.length ≤ 14) (hl : ld ≤ 60000) :
    ((bef st z0 z1 (evsOf ts) ts.length).1 ≤ z ∧ z ≤ (bef st z0 z1 (evsOf ts) ts.length).2) ∧ ∀ j, j < ts.length → (bef st z0 z1 (evsOf ts) (j + 1)).1 ≤ (bef st z0 z1 (evsOf ts) (j + 1)).2 := by
  induction h with
  | nil z a b => exact ⟨⟨a, b⟩, fun j hj => by cases hj⟩
  | snoc ts z e z' n h he a b ih =>
    have hb := (Made.snoc ts z e z' n h he a b).bd h0 h1
    rw [List.length_append, List.length_singleton] at hn hb
    obtain ⟨i1, i2⟩ := ih (by omega)
    have hes : evsOf (ts ++ [(e, z', n)]) = evsOf ts ++ [e] := by simp [evsOf]
    have hel : (evsOf ts).length = ts.length := by simp [evsOf]
    obtain ⟨kd, c0, c1, c2, n0, n1, k1, hld, sh⟩ := he
    have hsb := shows_bd (n := n) (z := z') hs1
    rw [← sh] at hsb
    have hdiv : 0 ≤ st / 2 := by omega
    have key : (bef st z0 z1 (evsOf ts ++ [e]) (ts.length + 1)).1 ≤ z' ∧ z' ≤ (bef st z0 z1 (evsOf ts ++ [e]) (ts.length + 1)).2 := by
      rw [← hel, bef_last, hel]
      have hlo : ldLo e.kd e.ld ≤ n ∧ n ≤ ldHi e.kd e.ld := by
        unfold ldLo ldHi
        rcases kd with k | k | k
        · have := k1 k; rw [k] at *; simp; omega
        · rw [k] at hld ⊢; simp at hld ⊢; omega
        · rw [k] at hld ⊢; simp at hld ⊢; omega
      unfold stepR sLo sHi
      push_cast at hb
      dsimp only
      omega
    refine ⟨?_, fun j hj => ?_⟩
    · rw [hes, List.length_append, List.length_singleton]; exact key
    · rw [hes]
      rw [List.length_append, List.length_singleton] at hj
      by_cases hjl : j < ts.length
      · rw [bef_pre _ _ _ _ _ _ (by rw [hel]; omega)]; exact i2 j hjl
      · obtain rfl : j = ts.length := by omega
        omega
end Go.Proofs.Ytgbogdckmfencaa
