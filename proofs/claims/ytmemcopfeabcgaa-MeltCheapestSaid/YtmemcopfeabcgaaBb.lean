/- All blends of an order, in order: mathematics. -/
import Derived.Test.YtmemcopfeabcgaaSc
set_option linter.unusedSimpArgs false
set_option linter.unusedVariables false
namespace Go.Proofs.Ytmemcopfeabcgaa
open Go Go.RowKit
/-- All lists with so many grabs at most, in lexicographic order. -/
def allB : List Int → List (List Int)
  | [] => [[]]
  | g :: gs => (List.range (g + 1).toNat).flatMap fun (n : Nat) => (allB gs).map fun l => (n : Int) :: l
/-- What is in such a list. -/
inductive Fit : List Int → List Int → Prop
  | nil : Fit [] []
  | cons {g x : Int} {gs l : List Int} (h1 : 0 ≤ x) (h2 : x ≤ g) (h : Fit gs l) : Fit (g :: gs) (x :: l)
theorem Fit.len {gs l : List Int} (h : Fit gs l) : l.length = gs.length := by
  induction h with
  | nil => rfl
  | cons _ _ _ ih => simp [ih]
theorem Fit.at_ {gs l : List Int} (h : Fit gs l) : ∀ i, i < gs.length → 0 ≤ l.getD i 0 ∧ l.getD i 0 ≤ gs.getD i 0 := by
  induction h with
  | nil => intro i hi; simp at hi
  | cons h1 h2 _ ih =>
    intro i hi
    cases i with
    | zero => exact ⟨h1, h2⟩
    | succ i => exact ih i (by simpa using hi)
theorem Fit.of : ∀ {gs l : List Int}, l.length = gs.length → (∀ i, i < gs.length → 0 ≤ l.getD i 0 ∧ l.getD i 0 ≤ gs.getD i 0) → Fit gs l
  | [], [], _, _ => .nil
  | g :: gs, x :: l, hl, h => .cons (h 0 (by simp)).1 (h 0 (by simp)).2 (Fit.of (by simpa using hl) fun i hi => h (i + 1) (by simpa using hi))
theorem mem_allB : ∀ {gs l : List Int}, l ∈ allB gs ↔ Fit gs l
  | [], l => by
    simp only [allB, List.mem_singleton]
    exact ⟨fun h => by subst h; exact .nil, fun h => by cases h; rfl⟩
  | g :: gs, l => by
    simp only [allB, List.mem_flatMap, List.mem_range, List.mem_map]
    constructor
    · rintro ⟨n, hn, a, ha, rfl⟩
      exact .cons (by omega) (by omega) (mem_allB.1 ha)
    · intro h
      cases h with
      | @cons _ x _ a h1 h2 h3 => exact ⟨x.toNat, by omega, a, mem_allB.2 h3, by rw [Int.toNat_of_nonneg h1]⟩
/-- Before, in lexicographic order. -/
inductive Lex : List Int → List Int → Prop
  | head {x y : Int} {a b : List Int} (h : x < y) : Lex (x :: a) (y :: b)
  | tail {x : Int} {a b : List Int} (h : Lex a b) : Lex (x :: a) (x :: b)
theorem pair_append {α : Type} {R : α → α → Prop} {a b : List α} (h1 : a.Pairwise R) (h2 : b.Pairwise R) (h : ∀ x ∈ a, ∀ y ∈ b, R x y) : (a ++ b).Pairwise R := List.pairwise_append.2 ⟨h1, h2, h⟩
theorem allB_sorted : ∀ gs : List Int, (allB gs).Pairwise Lex
  | [] => by simp [allB]
  | g :: gs => by
    have ih := allB_sorted gs
    have one : ∀ n : Nat, ((allB gs).map fun l => (n : Int) :: l).Pairwise Lex := fun n => List.pairwise_map.2 (ih.imp fun h => .tail h)
    have all : ∀ k : Nat, ((List.range k).flatMap fun (n : Nat) => (allB gs).map fun l => (n : Int) :: l).Pairwise Lex := fun k => by
      induction k with
      | zero => simp
      | succ k ihk =>
        rw [List.range_succ, List.flatMap_append]
        simp only [List.flatMap_cons, List.flatMap_nil, List.append_nil]
        refine pair_append ihk (one k) fun x hx y hy => ?_
        obtain ⟨n, hn, hx⟩ := List.mem_flatMap.1 hx
        obtain ⟨a, _, rfl⟩ := List.mem_map.1 hx
        obtain ⟨b, _, rfl⟩ := List.mem_map.1 hy
        exact .head (by have := List.mem_range.1 hn; omega)
    exact all _
/-- The grabs of an order's bins. -/
def Od.gs (o : Od) : List Int := o.bs.map Bn.g
theorem gs_len (o : Od) : o.gs.length = o.bs.length := by simp [Od.gs]
theorem gs_at (o : Od) (i : Nat) : o.gs.getD i 0 = (o.bn i).g := by
  unfold Od.gs Od.bn
  rw [List.getD_eq_getElem?_getD, List.getD_eq_getElem?_getD, List.getElem?_map]
  cases o.bs[i]? <;> rfl
theorem mx_at (o : Od) (i : Nat) : o.mx i = (o.bn i).g := rfl
theorem Fit.inb {o : Od} {l : List Int} (h : Fit o.gs l) : InB zer o.mx (lf l) := fun i _ => by
  rw [mx_at, ← gs_at]
  by_cases hi : i < o.gs.length
  · exact h.at_ i hi
  · unfold lf
    rw [List.getD_eq_getElem?_getD, List.getD_eq_getElem?_getD, List.getElem?_eq_none (by rw [h.len]; omega), List.getElem?_eq_none (by omega)]
    exact ⟨Int.le_refl _, Int.le_refl _⟩
theorem lf_row (d : Nat → Int) {n i : Nat} (hi : i < n) : lf (rowOf d n) i = d i := by
  unfold lf
  rw [List.getD_eq_getElem?_getD, List.getElem?_eq_getElem (by rw [rowOf_len]; exact hi), rowOf_at d hi]
  rfl
theorem inb_fit {o : Od} (hb : o.bs.length ≤ 4) {d : Nat → Int} (h : InB zer o.mx d) : Fit o.gs (rowOf d o.bs.length) := by
  refine Fit.of (by rw [rowOf_len, gs_len]) fun i hi => ?_
  rw [gs_len] at hi
  have h1 := h i (by omega)
  have h2 := lf_row d hi
  unfold lf at h2
  rw [h2, gs_at]
  exact h1
/-- Behind in the list is behind in rank. -/
theorem lex_rk {lo hi b d : Nat → Int} (hb : InB lo hi b) (hd : InB lo hi d) (h : (b 0 < d 0) ∨ (b 0 = d 0 ∧ b 1 < d 1) ∨ (b 0 = d 0 ∧ b 1 = d 1 ∧ b 2 < d 2) ∨ (b 0 = d 0 ∧ b 1 = d 1 ∧ b 2 = d 2 ∧ b 3 < d 3)) : rk lo hi b < rk lo hi d := by
  rcases Int.lt_or_le (rk lo hi b) (rk lo hi d) with h1 | h1
  · exact h1
  · exfalso
    have b1 := hb 1 (by omega)
    have b2 := hb 2 (by omega)
    have b3 := hb 3 (by omega)
    have d1 := hd 1 (by omega)
    have d2 := hd 2 (by omega)
    have d3 := hd 3 (by omega)
    unfold rk at h1
    have e1 := dg_mono (m := hi 3 - lo 3 + 1) (by omega) (by omega) (by omega) h1 (by omega)
    have e2 := dg_mono (m := hi 2 - lo 2 + 1) (by omega) (by omega) (by omega) e1 (by omega)
    have e3 := dg_mono (m := hi 1 - lo 1 + 1) (by omega) (by omega) (by omega) e2 (by omega)
    rcases h with h | ⟨h, h'⟩ | ⟨h, h', h''⟩ | ⟨h, h', h'', h'''⟩
    · omega
    · rw [h] at e2; omega
    · rw [h, h'] at e1; omega
    · rw [h, h', h''] at h1; omega
theorem Lex.four {a b : List Int} (h : Lex a b) (hl : a.length = b.length) (h4 : a.length ≤ 4) : (lf a 0 < lf b 0) ∨ (lf a 0 = lf b 0 ∧ lf a 1 < lf b 1) ∨ (lf a 0 = lf b 0 ∧ lf a 1 = lf b 1 ∧ lf a 2 < lf b 2) ∨ (lf a 0 = lf b 0 ∧ lf a 1 = lf b 1 ∧ lf a 2 = lf b 2 ∧ lf a 3 < lf b 3) := by
  cases h with
  | head h => exact .inl h
  | tail h =>
    cases h with
    | head h => exact .inr (.inl ⟨rfl, h⟩)
    | tail h =>
      cases h with
      | head h => exact .inr (.inr (.inl ⟨rfl, rfl, h⟩))
      | tail h =>
        cases h with
        | head h => exact .inr (.inr (.inr ⟨rfl, rfl, rfl, h⟩))
        | tail h =>
          cases h with
          | head h => simp at h4
          | tail h => simp at h4
theorem Lex.rk {o : Od} {a b : List Int} (h : Lex a b) (ha : Fit o.gs a) (hb : Fit o.gs b) (h4 : o.bs.length ≤ 4) : rk zer o.mx (lf a) < rk zer o.mx (lf b) :=
  lex_rk ha.inb hb.inb (h.four (by rw [ha.len, hb.len]) (by rw [ha.len, gs_len]; exact h4))
theorem Lex.irrefl {a : List Int} (h : Lex a a) : False := by
  induction a with
  | nil => cases h
  | cons x r ih =>
    cases h with
    | head h => omega
    | tail h => exact ih h
/-- In a sorted list, what comes before in rank comes before in place. -/
theorem before_of {xs : List (List Int)} (hs : xs.Pairwise Lex) {i j : Nat} {a b : List Int} (ha : xs[i]? = some a) (hb : xs[j]? = some b) (h : ¬ j < i) (hne : i ≠ j) : Lex a b := by
  have hi : i < xs.length := (List.getElem?_eq_some_iff.1 ha).1
  have hj : j < xs.length := (List.getElem?_eq_some_iff.1 hb).1
  have := List.pairwise_iff_getElem.1 hs i j hi hj (by omega)
  rw [List.getElem?_eq_getElem hi] at ha
  rw [List.getElem?_eq_getElem hj] at hb
  rw [Option.some.inj ha, Option.some.inj hb] at this
  exact this
/-- A good blend that costs as much as the best one, and is another one, comes behind it. -/
theorem best_seen {o : Od} (ho : o.Ok) {d : Nat → Int} (hc : Cheap o (some d)) {i : Nat} {x : List Int} (hx : (allB o.gs)[i]? = some x) (hg : Good o (lf x)) (he : cst o (lf x) o.bs.length = cst o d o.bs.length) (hne : x ≠ rowOf d o.bs.length) : ∃ j, j < i ∧ (allB o.gs)[j]? = some (rowOf d o.bs.length) := by
  have fx : Fit o.gs x := mem_allB.1 (List.mem_of_getElem? hx)
  have fd : Fit o.gs (rowOf d o.bs.length) := inb_fit ho.b2 hc.1
  obtain ⟨j, hj⟩ := List.getElem?_of_mem (mem_allB.2 fd)
  refine ⟨j, ?_, hj⟩
  rcases Nat.lt_or_ge j i with h | h
  · exact h
  · exfalso
    have hij : i ≠ j := fun e => hne (by subst e; rw [hx] at hj; exact Option.some.inj hj)
    have hl := before_of (allB_sorted o.gs) hx hj (by omega) hij
    have h1 := hl.rk fx fd ho.b2
    have h2 := (hc.2.2.2 (lf x) fx.inb (rk_lt fx.inb) hg).2 he
    have h3 : rk zer o.mx (lf (rowOf d o.bs.length)) = rk zer o.mx d := by
      have e : ∀ i, i < 4 → lf (rowOf d o.bs.length) i = d i := fun i hi => by
        by_cases h : i < o.bs.length
        · exact lf_row d h
        · have a1 := hc.1 i hi
          have a2 := fd.inb i hi
          have : o.mx i = 0 := by rw [mx_at]; unfold Od.bn; rw [List.getD_eq_getElem?_getD, List.getElem?_eq_none (by omega)]; rfl
          rw [this] at a1 a2
          simp only [zer] at a1 a2
          omega
      unfold rk
      rw [e 0 (by omega), e 1 (by omega), e 2 (by omega), e 3 (by omega)]
    omega
theorem flatMap_snoc (gs : List Int) (pre : List Int) (k : Nat) : ((List.range (k + 1)).flatMap fun (n : Nat) => (allB gs).map fun l => pre ++ ((n : Int) :: l)) = ((List.range k).flatMap fun (n : Nat) => (allB gs).map fun l => pre ++ ((n : Int) :: l)) ++ (allB gs).map fun l => pre ++ ((k : Int) :: l) := by
  rw [List.range_succ, List.flatMap_append]; simp
theorem allB_len : ∀ (gs : List Int), (∀ g ∈ gs, g ≤ 4) → (allB gs).length ≤ 5 ^ gs.length
  | [], _ => by simp [allB]
  | g :: gs, h => by
    have ih := allB_len gs fun x hx => h x (by simp [hx])
    have hg := h g (by simp)
    have e : ∀ k : Nat, ((List.range k).flatMap fun (n : Nat) => (allB gs).map fun l => (n : Int) :: l).length = k * (allB gs).length := fun k => by
      induction k with
      | zero => simp
      | succ k ihk => rw [List.range_succ, List.flatMap_append, List.length_append, ihk]; simp [Nat.succ_mul]
    simp only [allB]
    rw [e, List.length_cons, Nat.pow_succ, Nat.mul_comm]
    exact Nat.mul_le_mul ih (by omega)
end Go.Proofs.Ytmemcopfeabcgaa
