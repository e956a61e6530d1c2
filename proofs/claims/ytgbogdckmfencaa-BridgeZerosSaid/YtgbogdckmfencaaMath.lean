/- Plain mathematics of layer 1: what zeros events may have by themselves and those before them. Nothing of the program. -/
import Derived.Test.YtgbogdckmfencaaSm
import Derived.Test.YtgbogdckmfencaaBox
set_option linter.unusedSimpArgs false
set_option linter.unusedVariables false
namespace Go.Proofs.Ytgbogdckmfencaa
def sLo (st : Int) (e : Ev) : Int := max (e.sh - st / 2 - ldHi e.kd e.ld) (-200)
def sHi (st : Int) (e : Ev) : Int := min (e.sh - st / 2 + st - 1 - ldLo e.kd e.ld) 200
def stepR (st : Int) (b : Int × Int) (e : Ev) : Int × Int := (max (b.1 + e.c0) (sLo st e), min (b.2 + e.c1) (sHi st e))
/-- What the zero may be after the first k events, by them alone. -/
def bef (st z0 z1 : Int) (es : List Ev) : Nat → Int × Int
  | 0 => (z0, z1)
  | k + 1 => match es[k]? with
    | some e => stepR st (bef st z0 z1 es k) e
    | none => bef st z0 z1 es k
theorem bef_succ {st z0 z1 : Int} {es : List Ev} {k : Nat} (hk : k < es.length) : bef st z0 z1 es (k + 1) = stepR st (bef st z0 z1 es k) es[k] := by
  rw [bef, List.getElem?_eq_getElem hk]
structure EvOk (e : Ev) : Prop where
  kd : e.kd = 1 ∨ e.kd = 2 ∨ e.kd = 3
  s1 : -60000 ≤ e.sh
  s2 : e.sh ≤ 60000
  l1 : 0 ≤ e.ld
  l2 : e.ld ≤ 60000
  l3 : e.ld ≠ 0 → e.kd = 2
  c1 : -200 ≤ e.c0
  c2 : e.c0 ≤ e.c1
  c3 : e.c1 ≤ 200
structure LogOk (st z0 z1 : Int) (es : List Ev) : Prop where
  s1 : 1 ≤ st
  s2 : st ≤ 100
  r1 : -200 ≤ z0
  r2 : z0 ≤ z1
  r3 : z1 ≤ 200
  n : es.length ≤ 14
  ev : ∀ e ∈ es, EvOk e
theorem ckR_zero {a b lo hi : Int} (h : ckR a b lo hi = 0) : lo ≤ a ∧ a ≤ b ∧ b ≤ hi := by
  unfold ckR at h
  split at h
  · omega
  · split at h <;> omega
theorem ckE_zero {st : Int} {e : Ev} (h : ckE st e = 0) : EvOk e := by
  unfold ckE at h
  split at h
  · omega
  · split at h
    · omega
    · split at h
      · omega
      · split at h
        · omega
        · split at h
          · omega
          · obtain ⟨h1, h2, h3⟩ := ckR_zero h
            constructor <;> omega
theorem ckEs_zero {st : Int} {es : List Ev} (h : ckEs st es = 0) : ∀ e ∈ es, ckE st e = 0 := by
  induction es with
  | nil => intro e he; cases he
  | cons a r ih =>
    intro e he
    rw [ckEs] at h
    split at h
    · omega
    · rename_i h0
      rcases List.mem_cons.1 he with rfl | he
      · omega
      · exact ih h e he
theorem ckL_zero {st z0 z1 : Int} {es : List Ev} (h : ckL st z0 z1 es = 0) : LogOk st z0 z1 es := by
  unfold ckL at h
  split at h
  · omega
  · split at h
    · omega
    · rename_i h0
      obtain ⟨h1, h2, h3⟩ := ckR_zero (show ckR z0 z1 (-200) 200 = 0 by omega)
      split at h
      · omega
      · exact ⟨by omega, by omega, h1, h2, h3, by omega, fun e he => ckE_zero (ckEs_zero h e he)⟩
theorem bef_lo {st z0 z1 : Int} {es : List Ev} (h : LogOk st z0 z1 es) (k : Nat) : -200 ≤ (bef st z0 z1 es k).1 ∧ (bef st z0 z1 es k).2 ≤ 200 := by
  induction k with
  | zero => exact ⟨h.r1, h.r3⟩
  | succ k ih =>
    rw [bef]
    split
    · simp only [stepR, sLo, sHi]; omega
    · exact ih
/-- The zeros of the first m events, by them and those before them; the rest of the array is zero. -/
def kn (st z0 z1 : Int) (es : List Ev) (m : Nat) : Nat → Int × Int := fun i => if i < m then bef st z0 z1 es (i + 1) else (0, 0)
theorem kn_upd (st z0 z1 : Int) (es : List Ev) (k : Nat) : upd (kn st z0 z1 es k) k (bef st z0 z1 es (k + 1)) = kn st z0 z1 es (k + 1) := by
  funext i
  unfold upd kn
  by_cases h : i = k
  · subst h; simp
  · rw [if_neg h]
    by_cases h2 : i < k
    · rw [if_pos h2, if_pos (by omega)]
    · rw [if_neg h2, if_neg (by omega)]
/-- m events fit, and the next one, if there is one, does not. -/
structure Fits (st z0 z1 : Int) (es : List Ev) (m : Nat) : Prop where
  le : m ≤ es.length
  yes : ∀ j, j < m → (bef st z0 z1 es (j + 1)).1 ≤ (bef st z0 z1 es (j + 1)).2
  no : m < es.length → (bef st z0 z1 es (m + 1)).2 < (bef st z0 z1 es (m + 1)).1
theorem Fits.uniq {st z0 z1 : Int} {es : List Ev} {m k : Nat} (h : Fits st z0 z1 es m) (h' : Fits st z0 z1 es k) : m = k := by
  rcases Nat.lt_trichotomy m k with hlt | he | hgt
  · have h1 := h'.yes m hlt; have h2 := h.no (by have := h'.le; omega); omega
  · exact he
  · have h1 := h.yes k hgt; have h2 := h'.no (by have := h.le; omega); omega
/-- What the zero of event n - 1 - d may be, by all events (n of them). -/
def finR (st z0 z1 : Int) (es : List Ev) : Nat → Int × Int
  | 0 => bef st z0 z1 es es.length
  | d + 1 => match es[es.length - 1 - d]? with
    | some e => (max (bef st z0 z1 es (es.length - 1 - d)).1 ((finR st z0 z1 es d).1 - e.c1), min (bef st z0 z1 es (es.length - 1 - d)).2 ((finR st z0 z1 es d).2 - e.c0))
    | none => (0, 0)
/-- The array of zeros, of which those from j on are known by all events. -/
def zst (st z0 z1 : Int) (es : List Ev) (j : Nat) : Nat → Int × Int := fun i => if i < es.length then (if j ≤ i then finR st z0 z1 es (es.length - 1 - i) else bef st z0 z1 es (i + 1)) else (0, 0)
theorem zst_start (st z0 z1 : Int) (es : List Ev) : kn st z0 z1 es es.length = zst st z0 z1 es (es.length - 1) := by
  funext i
  unfold kn zst
  by_cases h : i < es.length
  · rw [if_pos h, if_pos h]
    by_cases h2 : es.length - 1 ≤ i
    · rw [if_pos h2, show es.length - 1 - i = 0 by omega, finR, show i + 1 = es.length by omega]
    · rw [if_neg h2]
  · rw [if_neg h, if_neg h]
theorem finR_succ {st z0 z1 : Int} {es : List Ev} {i : Nat} (h : i + 1 < es.length) : finR st z0 z1 es (es.length - 1 - i) =
    (max (bef st z0 z1 es (i + 1)).1 ((finR st z0 z1 es (es.length - 1 - (i + 1))).1 - es[i + 1].c1), min (bef st z0 z1 es (i + 1)).2 ((finR st z0 z1 es (es.length - 1 - (i + 1))).2 - es[i + 1].c0)) := by
  rw [show es.length - 1 - i = (es.length - 1 - (i + 1)) + 1 by omega, finR, show es.length - 1 - (es.length - 1 - (i + 1)) = i + 1 by omega, List.getElem?_eq_getElem h]
theorem zst_lo {st z0 z1 : Int} {es : List Ev} {i : Nat} (h : i + 1 < es.length) : zst st z0 z1 es (i + 1) i = bef st z0 z1 es (i + 1) := by
  unfold zst; rw [if_pos (by omega), if_neg (by omega)]
theorem zst_hi {st z0 z1 : Int} {es : List Ev} {i : Nat} (h : i + 1 < es.length) : zst st z0 z1 es (i + 1) (i + 1) = finR st z0 z1 es (es.length - 1 - (i + 1)) := by
  unfold zst; rw [if_pos h, if_pos (Nat.le_refl _)]
theorem zst_upd {st z0 z1 : Int} {es : List Ev} {i : Nat} (h : i + 1 < es.length) : upd (zst st z0 z1 es (i + 1)) i (finR st z0 z1 es (es.length - 1 - i)) = zst st z0 z1 es i := by
  funext k
  unfold upd zst
  by_cases e : k = i
  · subst e; rw [if_pos rfl, if_pos (by omega), if_pos (Nat.le_refl _)]
  · rw [if_neg e]
    by_cases h1 : k < es.length
    · rw [if_pos h1, if_pos h1]
      by_cases h2 : i + 1 ≤ k
      · rw [if_pos h2, if_pos (by omega)]
      · rw [if_neg h2, if_neg (by omega)]
    · rw [if_neg h1, if_neg h1]
theorem finR_bd {st z0 z1 : Int} {es : List Ev} (h : LogOk st z0 z1 es) (hf : ∀ j, j < es.length → (bef st z0 z1 es (j + 1)).1 ≤ (bef st z0 z1 es (j + 1)).2) (d : Nat) (hd : d < es.length) :
    -200 ≤ (finR st z0 z1 es d).1 ∧ (finR st z0 z1 es d).1 ≤ 200 + 200 * d ∧ -200 - 200 * d ≤ (finR st z0 z1 es d).2 ∧ (finR st z0 z1 es d).2 ≤ 200 := by
  induction d with
  | zero =>
    have h1 := bef_lo h es.length
    have h2 := hf (es.length - 1) (by omega)
    rw [show es.length - 1 + 1 = es.length by omega] at h2
    rw [finR]
    omega
  | succ d ih =>
    have h3 := ih (by omega)
    have h1 := bef_lo h (es.length - 1 - d)
    have h2 := hf (es.length - 1 - d - 1) (by omega)
    rw [show es.length - 1 - d - 1 + 1 = es.length - 1 - d by omega] at h2
    rw [finR, List.getElem?_eq_getElem (by omega)]
    have he := h.ev _ (List.getElem_mem (show es.length - 1 - d < es.length by omega))
    obtain ⟨_, _, _, _, _, _, c1, c2, c3⟩ := he
    simp only
    omega
end Go.Proofs.Ytgbogdckmfencaa
