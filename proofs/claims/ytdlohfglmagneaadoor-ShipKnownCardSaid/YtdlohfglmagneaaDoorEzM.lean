/- MeltScaled. -/
import Derived.Test.YtdlohfglmagneaaDoorBsM
set_option linter.unusedSimpArgs false
set_option linter.unusedVariables false
namespace Go.Proofs.YtdlohfglmagneaaDoor
open Go Go.RowKit
/-- A store into a row of one's own. -/
theorem own_store {w : World} {b : Nat} {e : TypeId} {s q n cap : Nat} {xs : List Value} (h : w.ownsRow b e s (.slice (some ⟨q, 0, none⟩) n cap) n xs) (j : Nat) (u : Value) (hj : j < n * s) : (w.setCell ⟨q, j, none⟩ u).ownsRow b e s (.slice (some ⟨q, 0, none⟩) n cap) n (xs.set j u) := by
  refine ⟨by rw [List.length_set]; exact h.1, ?_⟩
  rcases h.2 with ⟨h1, _⟩ | ⟨g, c, cur, h1, hb, hg, hc, hm, hs, ht⟩
  · simp at h1
  · simp only [Value.slice.injEq, Option.some.injEq, Addr.mk.injEq, and_true, true_and] at h1
    obtain ⟨rfl, rfl⟩ := h1
    have k : Bx (w.setCell ⟨q, j, none⟩ u) q e (cur.setIfInBounds j u) := Bx.set_ (show Bx w q e cur from hg) j u
    refine .inr ⟨q, cap, _, rfl, hb, k, hc, hm, by simpa using hs, ?_⟩
    rw [Array.toList_setIfInBounds, ← ht, ← List.take_set]
section
variable {V wr : World} {lm : List Int} {bs : List Bn} {le mo : Int} {lv bv : Value} {rs : List (List Value)} {q : Nat}
end
/-- The bins before i are scaled. -/
structure Half (k : Int) (bs bs' : List Bn) (i : Nat) : Prop where
  len : bs'.length = bs.length
  row : ∀ (j : Nat) (b : Bn), bs[j]? = some b → bs'[j]? = some (if j < i then b.scale k else b)
theorem Half.start (k : Int) (bs : List Bn) : Half k bs bs 0 := ⟨rfl, fun j b h => by rw [if_neg (by omega)]; exact h⟩
theorem Half.step {k : Int} {bs bs' : List Bn} {i : Nat} {b : Bn} (h : Half k bs bs' i) (hb : bs[i]? = some b) : Half k bs (bs'.set i (b.scale k)) (i + 1) := by
  have hi : i < bs'.length := by rw [h.len]; exact (List.getElem?_eq_some_iff.1 hb).1
  refine ⟨by rw [List.length_set]; exact h.len, fun j c hc => ?_⟩
  by_cases e : j = i
  · subst e
    rw [List.getElem?_set_self hi, if_pos (by omega)]
    rw [hb] at hc
    rw [Option.some.inj hc]
  · rw [List.getElem?_set_ne (Ne.symm e), h.row j c hc]
    by_cases e2 : j < i
    · rw [if_pos e2, if_pos (by omega)]
    · rw [if_neg e2, if_neg (by omega)]
theorem Half.done {k : Int} {bs bs' : List Bn} (h : Half k bs bs' bs.length) : bs' = bs.map (Bn.scale k) := by
  refine List.ext_getElem? fun j => ?_
  rw [List.getElem?_map]
  cases e : bs[j]? with
  | none => rw [List.getElem?_eq_none (by rw [h.len]; exact List.getElem?_eq_none_iff.1 e)]; rfl
  | some b => rw [h.row j b e, if_pos (List.getElem?_eq_some_iff.1 e).1]; rfl
end Go.Proofs.YtdlohfglmagneaaDoor

/-! Easier orders: mathematics; orders made easier in memory. -/
namespace Go.Proofs.YtdlohfglmagneaaDoor
open Go Go.RowKit
/-- An order that is easier than another one. -/
structure Easier (o x : Od) : Prop where
  lm : x.lm.length = o.lm.length
  li : ∀ j, o.li j ≤ x.li j
  le : x.le ≤ o.le
  mo : o.mo ≤ x.mo
  bs : x.bs.length = o.bs.length
  w : ∀ i, (x.bn i).w = (o.bn i).w
  c : ∀ i, (x.bn i).c ≤ (o.bn i).c
  g : ∀ i, (o.bn i).g ≤ (x.bn i).g
  g2 : ∀ i j, (x.bn i).g2 j ≤ (o.bn i).g2 j
theorem Easier.kil {o x : Od} (h : Easier o x) (b : Nat → Int) (n : Nat) : kil x b n = kil o b n := sm_congr fun i _ => by rw [h.w]
theorem Easier.cst {o x : Od} (h : Easier o x) {b : Nat → Int} (hb : Six b) (n : Nat) : cst x b n ≤ cst o b n := sm_mono fun i _ => Int.mul_le_mul_of_nonneg_left (h.c i) (hb i).1
theorem Easier.exX {o x : Od} (h : Easier o x) (ho : o.Ok) {b : Nat → Int} (hb : Six b) (j : Nat) {n : Nat} (hn : n ≤ o.bs.length) : exX x b j n ≤ exX o b j n := by
  refine sm_mono fun i hi => ?_
  rw [h.w]
  refine Int.mul_le_mul_of_nonneg_left ?_ (w_bd ho hb (by omega)).1
  have := h.g2 i j
  have := h.li j
  omega
/-- No two bins share their grams. -/
def Apt (rs : List (List Value)) : Prop := ∀ (i j : Nat) (r s : List Value) (u v : Value), i < j → rs[i]? = some r → rs[j]? = some s → r[0]? = some u → s[0]? = some v → u.ownBlock = none ∨ u.ownBlock ≠ v.ownBlock
theorem Apt.nil : Apt [] := fun i j r s u v _ h => by simp at h
/-- The address of the grams of bin i. -/
def HeadIs (rs : List (List Value)) (i : Nat) (v : Value) : Prop := ∃ r, rs[i]? = some r ∧ r[0]? = some v
section
variable {g : Nat} {V wr x : World} {lm : List Int} {bs : List Bn} {le mo : Int} {lv bv : Value} {rs : List (List Value)} {q : Nat}
theorem Apt.set_ (ha : Apt rs) {i : Nat} {r r' : List Value} (hr : rs[i]? = some r) (h0 : r'[0]? = r[0]?) : Apt (rs.set i r') := by
  have hi : i < rs.length := (List.getElem?_eq_some_iff.1 hr).1
  have key : ∀ (j : Nat) (s : List Value), (rs.set i r')[j]? = some s → ∃ s', rs[j]? = some s' ∧ s[0]? = s'[0]? := fun j s hs => by
    by_cases hj : i = j
    · subst hj
      rw [List.getElem?_set_self hi, Option.some.injEq] at hs
      subst hs
      exact ⟨r, hr, h0⟩
    · rw [List.getElem?_set_ne hj] at hs
      exact ⟨s, hs, rfl⟩
  intro a b s t u v hab h1 h2 hu hv
  obtain ⟨s', e1, e2⟩ := key a s h1
  obtain ⟨t', e3, e4⟩ := key b t h2
  exact ha a b s' t' u v hab e1 e3 (e2 ▸ hu) (e4 ▸ hv)
theorem HeadIs.set_ {i j : Nat} {r r' : List Value} {v : Value} (h : HeadIs rs j v) (hr : rs[i]? = some r) (h0 : r'[0]? = r[0]?) : HeadIs (rs.set i r') j v := by
  have hi : i < rs.length := (List.getElem?_eq_some_iff.1 hr).1
  obtain ⟨s, e1, e2⟩ := h
  by_cases hj : i = j
  · subst hj
    rw [hr, Option.some.injEq] at e1
    subst e1
    exact ⟨r', List.getElem?_set_self hi, h0.trans e2⟩
  · exact ⟨s, by rw [List.getElem?_set_ne hj]; exact e1, e2⟩
end
/-- A bin that is easier than another one. -/
structure EzB (b b' : Bn) : Prop where
  w : b'.w = b.w
  c0 : 0 ≤ b'.c
  c : b'.c ≤ b.c
  g : b.g ≤ b'.g
  g5 : b'.g ≤ 5
  len : b'.gr.length = b.gr.length
  gr : ∀ (j : Nat) (p p' : Int × Int), b.gr[j]? = some p → b'.gr[j]? = some p' → 0 ≤ p'.1 ∧ p'.1 ≤ p'.2 ∧ p'.2 ≤ p.2
/-- Bins that are easier, those from i on with as many grabs as before. -/
structure EzBs (bs bs' : List Bn) (i : Nat) : Prop where
  len : bs'.length = bs.length
  row : ∀ (j : Nat) (b b' : Bn), bs[j]? = some b → bs'[j]? = some b' → EzB b b' ∧ (i ≤ j → b'.g = b.g)
theorem EzBs.set_ {bs bs' : List Bn} {i i' k : Nat} {b b' : Bn} (h : EzBs bs bs' i) (hb : bs[k]? = some b) (he : EzB b b') (hi : i ≤ i') (hg : i' ≤ k → b'.g = b.g) : EzBs bs (bs'.set k b') i' := by
  have hk : k < bs'.length := by rw [h.len]; exact (List.getElem?_eq_some_iff.1 hb).1
  refine ⟨by rw [List.length_set]; exact h.len, fun j a a' h1 h2 => ?_⟩
  by_cases hj : k = j
  · subst hj
    rw [List.getElem?_set_self hk, Option.some.injEq] at h2
    subst h2
    rw [hb, Option.some.injEq] at h1
    subst h1
    exact ⟨he, hg⟩
  · rw [List.getElem?_set_ne hj] at h2
    obtain ⟨k1, k2⟩ := h.row j a a' h1 h2
    exact ⟨k1, fun h => k2 (by omega)⟩
/-- Limits that are higher, those from i on as before. -/
structure EzL (lm lm' : List Int) (i : Nat) : Prop where
  len : lm'.length = lm.length
  row : ∀ (j : Nat) (a b : Int), lm[j]? = some a → lm'[j]? = some b → a ≤ b ∧ b ≤ a + 49 ∧ (i ≤ j → b = a)
theorem EzL.start (lm : List Int) : EzL lm lm 0 := ⟨rfl, fun j a b h1 h2 => by rw [h1, Option.some.injEq] at h2; subst h2; exact ⟨by omega, by omega, fun _ => rfl⟩⟩
theorem EzL.step {lm lm' : List Int} {i : Nat} (h : EzL lm lm' i) {a : Int} (ha : lm[i]? = some a) {z : Int} (hz : 0 ≤ z) (hz2 : z ≤ 49) : EzL lm (lm'.set i (a + z)) (i + 1) := by
  have hk : i < lm'.length := by rw [h.len]; exact (List.getElem?_eq_some_iff.1 ha).1
  refine ⟨by rw [List.length_set]; exact h.len, fun j b c h1 h2 => ?_⟩
  by_cases hj : i = j
  · subst hj
    rw [List.getElem?_set_self hk, Option.some.injEq] at h2
    subst h2
    rw [ha, Option.some.injEq] at h1
    subst h1
    exact ⟨by omega, by omega, fun h => by omega⟩
  · rw [List.getElem?_set_ne hj] at h2
    obtain ⟨k1, k2, k3⟩ := h.row j b c h1 h2
    exact ⟨k1, k2, fun h => k3 (by omega)⟩
theorem EzBs.start {o : Od} (h : Small o 3 2 4) : EzBs o.bs o.bs 0 := ⟨rfl, fun j b b' h1 h2 => by
  rw [h1, Option.some.injEq] at h2
  subst h2
  obtain ⟨p1, p2, p3, p4, p5, p6, p7, p8⟩ := h.bn b (List.mem_of_getElem? h1)
  refine ⟨⟨rfl, p5, Int.le_refl _, Int.le_refl _, by omega, rfl, fun j p p' e1 e2 => ?_⟩, fun _ => rfl⟩
  rw [e1, Option.some.injEq] at e2
  subst e2
  have := p2 p (List.mem_of_getElem? e1)
  omega⟩
end Go.Proofs.YtdlohfglmagneaaDoor
