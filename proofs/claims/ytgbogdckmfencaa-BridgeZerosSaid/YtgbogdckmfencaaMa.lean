/- The tables of the net weight as a plain recursion over the events. Nothing of the program. -/
import Derived.Test.YtgbogdckmfencaaNh
import Derived.Test.YtgbogdckmfencaaMd
import Derived.Test.YtgbogdckmfencaaSlip
import Derived.Test.YtgbogdckmfencaaWi
import Derived.Test.YtgbogdckmfencaaDs
set_option linter.unusedSimpArgs false
set_option linter.unusedVariables false
/-! The tables of the net weight as a plain recursion over the events. Nothing of the program. -/
namespace Go.Proofs.Ytgbogdckmfencaa
theorem mem_rngL {lo hi z : Int} (h1 : lo ≤ z) (h2 : z ≤ hi) : z ∈ rngL lo hi := by
  unfold rngL
  rw [List.mem_map]
  exact ⟨(z - lo).toNat, by rw [List.mem_range]; omega, by omega⟩
end Go.Proofs.Ytgbogdckmfencaa

/-! Chains of zeros and what they weigh: sums, shifts, parts and single truths of the plain recursion. Nothing of the program. -/
namespace Go.Proofs.Ytgbogdckmfencaa
/-- From each zero of an event there is a zero of the next one. -/
structure Chain (f : Nat → Int × Int) (fol : Nat → Int → Int × Int) (n : Nat) : Prop where
  ne : ∀ e z, e + 1 < n → (f e).1 ≤ z → z ≤ (f e).2 → (fol e z).1 ≤ (fol e z).2
  mem : ∀ e z x, e + 1 < n → (f e).1 ≤ z → z ≤ (f e).2 → (fol e z).1 ≤ x → x ≤ (fol e z).2 → (f (e + 1)).1 ≤ x ∧ x ≤ (f (e + 1)).2
section
variable {f : Nat → Int × Int} {fol : Nat → Int → Int × Int} {n : Nat} (hc : Chain f fol n)
include hc
omit hc in
end
end Go.Proofs.Ytgbogdckmfencaa

/-! A truth that a log was made with: its zeros are among those that are told, and what it weighs is within the net loads. Nothing of the program. -/
namespace Go.Proofs.Ytgbogdckmfencaa
/-- The zeros of what was made. -/
theorem Made.steps {st z0 z1 ld : Int} {ts : List (Ev × Int × Int)} {z : Int} (h : Made st z0 z1 ld ts z) (hs1 : 1 ≤ st) (h0 : -9 ≤ z0) (h1 : z1 ≤ 9) (hn : ts.length ≤ 14) (hl : ld ≤ 60000) :
    (∀ i p, ts[i]? = some p → (bef st z0 z1 (evsOf ts) (i + 1)).1 ≤ p.2.1 ∧ p.2.1 ≤ (bef st z0 z1 (evsOf ts) (i + 1)).2) ∧ (∀ i p q, ts[i]? = some p → ts[i + 1]? = some q → p.2.1 + q.1.c0 ≤ q.2.1 ∧ q.2.1 ≤ p.2.1 + q.1.c1) ∧ ∀ p, ts[ts.length - 1]? = some p → p.2.1 = z := by
  induction h with
  | nil z a b => exact ⟨fun i p hp => by simp at hp, fun i p q hp => by simp at hp, fun p hp => by simp at hp⟩
  | snoc ts z e z' n h he a b ih =>
    have hfit := ((Made.snoc ts z e z' n h he a b).fits hs1 h0 h1 hn hl).1
    rw [List.length_append, List.length_singleton] at hn hfit
    obtain ⟨i1, i2, i3⟩ := ih (by omega)
    have hes : evsOf (ts ++ [(e, z', n)]) = evsOf ts ++ [e] := by simp [evsOf]
    have hel : (evsOf ts).length = ts.length := by simp [evsOf]
    refine ⟨fun i p hp => ?_, fun i p q hp hq => ?_, fun p hp => ?_⟩
    · by_cases hi : i < ts.length
      · rw [List.getElem?_append_left hi] at hp
        rw [hes, bef_pre _ _ _ _ _ _ (by omega)]
        exact i1 i p hp
      · have hlt := (List.getElem?_eq_some_iff.1 hp).1
        rw [List.length_append, List.length_singleton] at hlt
        obtain rfl : i = ts.length := by omega
        rw [List.getElem?_append_right (Nat.le_refl _), Nat.sub_self] at hp
        obtain rfl : (e, z', n) = p := by simpa using hp
        exact hfit
    · have hlt := (List.getElem?_eq_some_iff.1 hq).1
      rw [List.length_append, List.length_singleton] at hlt
      rw [List.getElem?_append_left (by omega)] at hp
      by_cases hi : i + 1 < ts.length
      · rw [List.getElem?_append_left hi] at hq
        exact i2 i p q hp hq
      · have hie : i + 1 = ts.length := by omega
        rw [List.getElem?_append_right (by omega), hie, Nat.sub_self] at hq
        obtain rfl : (e, z', n) = q := by simpa using hq
        have := i3 p (by rw [show ts.length - 1 = i by omega]; exact hp)
        dsimp only
        omega
    · rw [List.length_append, List.length_singleton, Nat.add_sub_cancel, List.getElem?_append_right (Nat.le_refl _), Nat.sub_self] at hp
      obtain rfl : (e, z', n) = p := by simpa using hp
      rfl
theorem evsOf_get {ts : List (Ev × Int × Int)} {i : Nat} {p : Ev × Int × Int} (h : ts[i]? = some p) : (evsOf ts)[i]? = some p.1 := by unfold evsOf; rw [List.getElem?_map, h]; rfl
theorem evsOf_len (ts : List (Ev × Int × Int)) : (evsOf ts).length = ts.length := by simp [evsOf]
theorem Made.fin {st z0 z1 ld : Int} {ts : List (Ev × Int × Int)} {z : Int} (h : Made st z0 z1 ld ts z) (hs1 : 1 ≤ st) (h0 : -9 ≤ z0) (h1 : z1 ≤ 9) (hn : ts.length ≤ 14) (hl : ld ≤ 60000) : ∀ d, d < ts.length → ∀ p, ts[ts.length - 1 - d]? = some p →
    (finR st z0 z1 (evsOf ts) d).1 ≤ p.2.1 ∧ p.2.1 ≤ (finR st z0 z1 (evsOf ts) d).2 := by
  obtain ⟨k1, k2, _⟩ := h.steps hs1 h0 h1 hn hl
  intro d
  induction d with
  | zero =>
    intro hd p hp
    have := k1 _ p hp
    rw [show ts.length - 1 - 0 + 1 = ts.length by omega] at this
    rw [finR, evsOf_len]
    exact this
  | succ d ih =>
    intro hd p hp
    have hq := List.getElem?_eq_getElem (show ts.length - 1 - d < ts.length by omega)
    have hi := ih (by omega) _ hq
    have hs := k2 (ts.length - 1 - (d + 1)) p _ hp (by rw [show ts.length - 1 - (d + 1) + 1 = ts.length - 1 - d by omega]; exact hq)
    have hb := k1 _ p hp
    rw [show ts.length - 1 - (d + 1) + 1 = ts.length - 1 - d by omega] at hb
    rw [finR, evsOf_len, evsOf_get hq]
    dsimp only
    omega
/-- The zero of an event in the truth, and the load. -/
def zOf (ts : List (Ev × Int × Int)) (i : Nat) : Int := match ts[i]? with
  | some p => p.2.1
  | none => 0
theorem Made.zst {st z0 z1 ld : Int} {ts : List (Ev × Int × Int)} {z : Int} (h : Made st z0 z1 ld ts z) (hs1 : 1 ≤ st) (h0 : -9 ≤ z0) (h1 : z1 ≤ 9) (hn : ts.length ≤ 14) (hl : ld ≤ 60000) (i : Nat) (hi : i < ts.length) : (Go.Proofs.Ytgbogdckmfencaa.zst st z0 z1 (evsOf ts) 0 i).1 ≤ zOf ts i ∧ zOf ts i ≤ (Go.Proofs.Ytgbogdckmfencaa.zst st z0 z1 (evsOf ts) 0 i).2 := by
  have hq := List.getElem?_eq_getElem hi
  have := h.fin hs1 h0 h1 hn hl (ts.length - 1 - i) (by omega) _ (by rw [show ts.length - 1 - (ts.length - 1 - i) = i by omega]; exact hq)
  unfold Go.Proofs.Ytgbogdckmfencaa.zst zOf
  rw [hq, evsOf_len, if_pos hi, if_pos (Nat.zero_le _)]
  exact this
end Go.Proofs.Ytgbogdckmfencaa

/-! What is known better: with narrower zeros and changes, or one event more, nothing gets wider. Nothing of the program. -/
namespace Go.Proofs.Ytgbogdckmfencaa
theorem zst_at {st z0 z1 : Int} {es : List Ev} {i : Nat} (h : i < es.length) : zst st z0 z1 es 0 i = finR st z0 z1 es (es.length - 1 - i) := by unfold zst; rw [if_pos h, if_pos (Nat.zero_le _)]
theorem zst_top {st z0 z1 : Int} {es : List Ev} {i : Nat} (h : i + 1 = es.length) : zst st z0 z1 es 0 i = bef st z0 z1 es (i + 1) := by
  rw [zst_at (by omega), show es.length - 1 - i = 0 by omega, finR, h]
theorem zst_rec {st z0 z1 : Int} {es : List Ev} {i : Nat} (h : i + 1 < es.length) : zst st z0 z1 es 0 i = (max (bef st z0 z1 es (i + 1)).1 ((zst st z0 z1 es 0 (i + 1)).1 - es[i + 1].c1), min (bef st z0 z1 es (i + 1)).2 ((zst st z0 z1 es 0 (i + 1)).2 - es[i + 1].c0)) := by
  rw [zst_at (by omega), zst_at h, finR_succ h]
/-- The events of the first are among those of the second one, with wider changes. -/
structure Narrow (es es' : List Ev) : Prop where
  len : es.length ≤ es'.length
  ev : ∀ (i : Nat) (e : Ev), es[i]? = some e → ∃ e' : Ev, es'[i]? = some e' ∧ e'.kd = e.kd ∧ e'.sh = e.sh ∧ e'.ld = e.ld ∧ e.c0 ≤ e'.c0 ∧ e'.c1 ≤ e.c1
theorem Narrow.bef {st z0 z1 y0 y1 : Int} {es es' : List Ev} (h : Narrow es es') (h0 : z0 ≤ y0) (h1 : y1 ≤ z1) : ∀ k, k ≤ es.length → (Go.Proofs.Ytgbogdckmfencaa.bef st z0 z1 es k).1 ≤ (Go.Proofs.Ytgbogdckmfencaa.bef st y0 y1 es' k).1 ∧ (Go.Proofs.Ytgbogdckmfencaa.bef st y0 y1 es' k).2 ≤ (Go.Proofs.Ytgbogdckmfencaa.bef st z0 z1 es k).2 := by
  intro k
  induction k with
  | zero => intro _; exact ⟨h0, h1⟩
  | succ k ih =>
    intro hk
    have hi := ih (by omega)
    have hv := List.getElem?_eq_getElem (show k < es.length by omega)
    obtain ⟨e', he, k1, k2, k3, k4, k5⟩ := h.ev k _ hv
    rw [Go.Proofs.Ytgbogdckmfencaa.bef, Go.Proofs.Ytgbogdckmfencaa.bef, hv, he]
    unfold stepR sLo sHi
    dsimp only
    rw [k1, k2, k3]
    omega
section
variable {st z0 z1 y0 y1 : Int} {es es' : List Ev} (h : LogOk st z0 z1 es) (h' : LogOk st y0 y1 es') (hf : Fits st z0 z1 es es.length) (hf' : Fits st y0 y1 es' es'.length) (hn : Narrow es es') (h0 : z0 ≤ y0) (h1 : y1 ≤ z1)
include h h' hf hf' hn h0 h1
omit h hf in
omit h hf in
omit h h' hf hf' h0 h1 in
omit h hf in
end
end Go.Proofs.Ytgbogdckmfencaa

/-! Truths of a log as paths of zeros: the zeros that are told are those of paths, and what is weighed is what paths weigh. Nothing of the program. -/
namespace Go.Proofs.Ytgbogdckmfencaa
/-- The zeros of a truth. -/
structure FPath (st z0 z1 : Int) (es : List Ev) (z : Nat → Int) : Prop where
  first : ∀ e : Ev, es[0]? = some e → z0 + e.c0 ≤ z 0 ∧ z 0 ≤ z1 + e.c1
  next : ∀ (i : Nat) (e : Ev), es[i + 1]? = some e → z i + e.c0 ≤ z (i + 1) ∧ z (i + 1) ≤ z i + e.c1
  at_ : ∀ (i : Nat) (e : Ev), es[i]? = some e → sLo st e ≤ z i ∧ z i ≤ sHi st e
section
variable {st z0 z1 : Int} {es : List Ev} {z : Nat → Int}
theorem FPath.bef (h : FPath st z0 z1 es z) : ∀ i, i < es.length → (Go.Proofs.Ytgbogdckmfencaa.bef st z0 z1 es (i + 1)).1 ≤ z i ∧ z i ≤ (Go.Proofs.Ytgbogdckmfencaa.bef st z0 z1 es (i + 1)).2 := by
  intro i
  induction i with
  | zero =>
    intro hi
    have hv := List.getElem?_eq_getElem hi
    have a := h.first _ hv
    have b := h.at_ _ _ hv
    rw [bef_succ hi]
    unfold stepR
    rw [Go.Proofs.Ytgbogdckmfencaa.bef]
    dsimp only
    omega
  | succ i ih =>
    intro hi
    have hv := List.getElem?_eq_getElem hi
    have a := h.next _ _ hv
    have b := h.at_ _ _ hv
    have c := ih (by omega)
    rw [bef_succ hi]
    unfold stepR
    dsimp only
    omega
theorem FPath.fits (h : FPath st z0 z1 es z) : Fits st z0 z1 es es.length := ⟨Nat.le_refl _, fun j hj => by have := h.bef j hj; omega, fun hlt => by omega⟩
theorem FPath.zst (h : FPath st z0 z1 es z) : ∀ i, i < es.length → (Go.Proofs.Ytgbogdckmfencaa.zst st z0 z1 es 0 i).1 ≤ z i ∧ z i ≤ (Go.Proofs.Ytgbogdckmfencaa.zst st z0 z1 es 0 i).2 := by
  have key : ∀ d, d < es.length → (Go.Proofs.Ytgbogdckmfencaa.zst st z0 z1 es 0 (es.length - 1 - d)).1 ≤ z (es.length - 1 - d) ∧ z (es.length - 1 - d) ≤ (Go.Proofs.Ytgbogdckmfencaa.zst st z0 z1 es 0 (es.length - 1 - d)).2 := by
    intro d
    induction d with
    | zero =>
      intro hd
      rw [zst_top (i := es.length - 1 - 0) (by omega)]
      exact h.bef _ (by omega)
    | succ d ih =>
      intro hd
      have hi := ih (by omega)
      have e1 : es.length - 1 - (d + 1) + 1 = es.length - 1 - d := by omega
      have hlt : es.length - 1 - (d + 1) + 1 < es.length := by omega
      have a := h.next _ _ (List.getElem?_eq_getElem hlt)
      have b := h.bef (es.length - 1 - (d + 1)) (by omega)
      rw [zst_rec hlt]
      rw [← e1] at hi
      dsimp only
      omega
  intro i hi
  have := key (es.length - 1 - i) (by omega)
  rwa [show es.length - 1 - (es.length - 1 - i) = i by omega] at this
theorem FPath.fol (hlog : LogOk st z0 z1 es) (h : FPath st z0 z1 es z) (i : Nat) (hi : i + 1 < es.length) : (folc es (Go.Proofs.Ytgbogdckmfencaa.zst st z0 z1 es 0) i (z i)).1 ≤ z (i + 1) ∧ z (i + 1) ≤ (folc es (Go.Proofs.Ytgbogdckmfencaa.zst st z0 z1 es 0) i (z i)).2 := by
  have a := h.next _ _ (List.getElem?_eq_getElem hi)
  have b := h.zst i (by omega)
  have c := h.zst (i + 1) hi
  have g := zst_good hlog h.fits i (by omega)
  unfold folc
  rw [List.getElem?_eq_getElem hi]
  dsimp only
  rw [if_pos (by omega)]
  dsimp only
  omega
end
/-- A range that is just what is between the least and the greatest of some paths. -/
structure NetIs (Q : (Nat → Int) → Prop) (L U : (Nat → Int) → Int) (r : Int × Int) : Prop where
  lo : ∀ z, Q z → r.1 ≤ L z
  hi : ∀ z, Q z → U z ≤ r.2
  loAt : ∃ z, Q z ∧ L z = r.1
  hiAt : ∃ z, Q z ∧ U z = r.2
theorem NetIs.uniq {Q Q' : (Nat → Int) → Prop} {L U L' U' : (Nat → Int) → Int} {r r' : Int × Int} (h : NetIs Q L U r) (h' : NetIs Q' L' U' r') (t : ∀ z, Q z → ∃ y, Q' y ∧ L' y = L z ∧ U' y = U z) (t' : ∀ y, Q' y → ∃ z, Q z ∧ L z = L' y ∧ U z = U' y) : r = r' := by
  obtain ⟨a, qa, ea⟩ := h.loAt
  obtain ⟨b, qb, eb⟩ := h.hiAt
  obtain ⟨c, qc, ec⟩ := h'.loAt
  obtain ⟨d, qd, ed⟩ := h'.hiAt
  obtain ⟨a', qa', la, ua⟩ := t a qa
  obtain ⟨b', qb', lb, ub⟩ := t b qb
  obtain ⟨c', qc', lc, uc⟩ := t' c qc
  obtain ⟨d', qd', ld, ud⟩ := t' d qd
  have h1 := h.lo c' qc'
  have h2 := h.hi d' qd'
  have h3 := h'.lo a' qa'
  have h4 := h'.hi b' qb'
  apply Prod.ext <;> omega
end Go.Proofs.Ytgbogdckmfencaa

/-! What truths weigh that go through one zero of an event: the tables of weightsBefore and weightsFrom together. Nothing of the program. -/
namespace Go.Proofs.Ytgbogdckmfencaa
end Go.Proofs.Ytgbogdckmfencaa

/-! What a driver adds in a truth, and what is paid. Nothing of the program. -/
namespace Go.Proofs.Ytgbogdckmfencaa
end Go.Proofs.Ytgbogdckmfencaa

/-! bridge.Paid, Inside, bounds of net loads. -/
namespace Go.Proofs.Ytgbogdckmfencaa
open Go Go.RowKit
end Go.Proofs.Ytgbogdckmfencaa
