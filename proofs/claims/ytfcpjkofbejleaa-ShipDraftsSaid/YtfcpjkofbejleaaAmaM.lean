/- Mathematics of truths, continued; Inside 40, fits 41, Part 46, depth 84. -/
import Derived.Test.YtfcpjkofbejleaaLi2M
set_option linter.unusedSimpArgs false
set_option linter.unusedVariables false
namespace Go.Proofs.Ytfcpjkofbejleaa
open Go Go.RowKit
theorem trS_bd {f : Int → Hd → Int} {hs : List Hd} {M : Int} (hM : 0 ≤ M) : ∀ {Z : List (Int × Int)}, (∀ p ∈ Z, 0 ≤ p.2 → 0 ≤ f p.1 (hd hs p.2) ∧ f p.1 (hd hs p.2) ≤ M) → 0 ≤ trS f hs Z ∧ trS f hs Z ≤ M * Z.length
  | [], _ => by simp [trS]
  | p :: r, h => by
    have ih := trS_bd hM (Z := r) fun q hq => h q (by simp [hq])
    unfold trS at ih ⊢
    simp only [List.map_cons, List.sum_cons, List.length_cons]
    have e : M * ((r.length + 1 : Nat) : Int) = M * r.length + M := by rw [Int.natCast_succ, Int.mul_add, Int.mul_one]
    rw [e]
    split
    · have := h p (by simp) (by assumption)
      omega
    · omega
theorem mul_bd5 {a b : Int} (h1 : 0 ≤ a ∧ a ≤ 5000) (h2 : 0 ≤ b ∧ b ≤ 10000) : 0 ≤ a * b ∧ a * b ≤ 50000000 := by
  refine ⟨Int.mul_nonneg h1.1 h2.1, ?_⟩
  have a1 := Int.mul_le_mul_of_nonneg_right h1.2 h2.1
  omega
/-- A truth in memory. -/
structure FacAt (w : World) (B : Nat) (x : Tru) (TA WA DA : Option Addr) : Prop where
  ts : Sl w B 1 TA (inr x.ts)
  ws : Sl w B 1 WA (inr x.ws)
  ds : LsAt w B DA x.ds
theorem FacAt.call {w w' : World} {x : Tru} {TA WA DA : Option Addr} (h : FacAt w w.heap.size x TA WA DA) (hb : Below w.heap.size w w') : FacAt w' w'.heap.size x TA WA DA := ⟨h.ts.call hb, h.ws.call hb, h.ds.call hb⟩
end Go.Proofs.Ytfcpjkofbejleaa

/-! Mathematics of layer 7: all truths of a voyage, and what they say together. -/
namespace Go.Proofs.Ytfcpjkofbejleaa
open Go Go.RowKit
/-! All truths of a voyage, and what they say together. -/
/-- Numbers that lie within ranges, one by one. -/
def InR : List (Int × Int) → List Int → Prop
  | [], [] => True
  | r :: R, n :: y => r.1 ≤ n ∧ n ≤ r.2 ∧ InR R y
  | _, _ => False
theorem InR.len : ∀ {R : List (Int × Int)} {y : List Int}, InR R y → y.length = R.length
  | [], [], _ => rfl
  | _ :: R, _ :: y, h => by simp [InR.len h.2.2]
  | [], _ :: _, h => h.elim
  | _ :: _, [], h => h.elim
def seqI (a b : Int) : List Int := (List.range (b + 1 - a).toNat).map fun k : Nat => a + (k : Int)
theorem seqI_mem {a b n : Int} : n ∈ seqI a b ↔ a ≤ n ∧ n ≤ b := by
  unfold seqI
  simp only [List.mem_map, List.mem_range]
  constructor
  · rintro ⟨k, h1, rfl⟩; omega
  · rintro ⟨h1, h2⟩; exact ⟨(n - a).toNat, by omega, by omega⟩
/-- One number more, of each of a range. -/
def sprS (out : List (List Int)) (r : Int × Int) : List (List Int) := (out.map fun o => (seqI r.1 r.2).map fun n => o ++ [n]).flatten
/-- All lists with a number of each of some ranges. -/
def spr (R : List (Int × Int)) : List (List Int) := R.foldl sprS [[]]
theorem sprS_mem {out : List (List Int)} {r : Int × Int} {x : List Int} : x ∈ sprS out r ↔ ∃ o ∈ out, ∃ n, r.1 ≤ n ∧ n ≤ r.2 ∧ x = o ++ [n] := by
  unfold sprS
  simp only [List.mem_flatten, List.mem_map]
  constructor
  · rintro ⟨l, ⟨o, ho, rfl⟩, hx⟩
    obtain ⟨n, hn, rfl⟩ := List.mem_map.1 hx
    have := seqI_mem.1 hn
    exact ⟨o, ho, n, this.1, this.2, rfl⟩
  · rintro ⟨o, ho, n, h1, h2, rfl⟩
    exact ⟨_, ⟨o, ho, rfl⟩, List.mem_map.2 ⟨n, seqI_mem.2 ⟨h1, h2⟩, rfl⟩⟩
theorem spr_mem {R : List (Int × Int)} {x : List Int} : x ∈ spr R ↔ InR R x := by
  suffices ∀ (R : List (Int × Int)) (out : List (List Int)), x ∈ R.foldl sprS out ↔ ∃ o ∈ out, ∃ y, InR R y ∧ x = o ++ y by
    unfold spr
    rw [this]
    constructor
    · rintro ⟨o, ho, y, h1, rfl⟩
      simp only [List.mem_singleton] at ho
      subst ho
      simpa using h1
    · intro h; exact ⟨[], by simp, x, h, by simp⟩
  intro R
  induction R with
  | nil =>
    intro out
    constructor
    · intro h; exact ⟨x, h, [], trivial, by simp⟩
    · rintro ⟨o, ho, y, h1, rfl⟩
      cases y with
      | nil => simpa using ho
      | cons => exact h1.elim
  | cons r R ih =>
    intro out
    rw [List.foldl_cons, ih]
    constructor
    · rintro ⟨o, ho, y, h1, rfl⟩
      obtain ⟨o', h2, n, h3, h4, rfl⟩ := sprS_mem.1 ho
      exact ⟨o', h2, n :: y, ⟨h3, h4, h1⟩, by simp⟩
    · rintro ⟨o, ho, y, h1, rfl⟩
      cases y with
      | nil => exact h1.elim
      | cons n y => exact ⟨o ++ [n], sprS_mem.2 ⟨o, ho, n, h1.1, h1.2.1, rfl⟩, y, h1.2.2, by simp⟩
theorem InR.le {R : List (Int × Int)} {k : Nat} {y : List Int} (h : y ∈ spr (R.take k)) : y.length ≤ R.length := by
  have := (spr_mem.1 h).len
  rw [this, List.length_take]
  omega
/-! The truths at the ends. -/
theorem trS_zip {f : Int → Hd → Int} {t : Cg × Int → Int} {hs : List Hd} : ∀ {ls : List Cg} {s : List Int}, (∀ h ∈ s, -1 ≤ h) → trS f hs (((ls.zip s).map t).zip s) = ((abd ls s).map fun p => f (t p) (hd hs p.2)).sum
  | [], s, _ => by simp [abd, trS]
  | c :: ls, [], _ => by simp [abd, trS]
  | c :: ls, x :: s, h => by
    have ih := trS_zip (f := f) (t := t) (hs := hs) (ls := ls) (s := s) fun y hy => h y (by simp [hy])
    have hx := h x (by simp)
    unfold trS abd at ih ⊢
    simp only [List.zip_cons_cons, List.map_cons, List.sum_cons]
    rw [ih]
    by_cases e : x = -1
    · rw [List.filter_cons_of_neg (by simpa using e), if_neg (by omega)]
      omega
    · rw [List.filter_cons_of_pos (by simpa using e), if_pos (by omega)]
      simp only [List.map_cons, List.sum_cons]
def tlt (hs : List Hd) (lo : Bool) (p : Cg × Int) : Int := if ((hd hs p.2).bw - (hd hs p.2).st < 0) = (lo = true) then p.1.t1 else p.1.t0
/-! The least and the greatest, one after the other. -/
def IsMM (L : List Int) (p : Int × Int) : Prop := p.1 ∈ L ∧ p.2 ∈ L ∧ ∀ x ∈ L, p.1 ≤ x ∧ x ≤ p.2
theorem IsMM.one (b : Int) : IsMM [b] (b, b) := ⟨by simp, by simp, fun x hx => by simp at hx; subst hx; exact ⟨Int.le_refl _, Int.le_refl _⟩⟩
theorem IsMM.snoc {L : List Int} {p : Int × Int} (h : IsMM L p) (b : Int) : IsMM (L ++ [b]) (min p.1 b, max p.2 b) := by
  obtain ⟨h1, h2, h3⟩ := h
  refine ⟨?_, ?_, fun x hx => ?_⟩
  · dsimp only
    rcases Int.le_total p.1 b with h | h
    · rw [Int.min_eq_left h]; simp [h1]
    · rw [Int.min_eq_right h]; simp
  · dsimp only
    rcases Int.le_total b p.2 with h | h
    · rw [Int.max_eq_left h]; simp [h2]
    · rw [Int.max_eq_right h]; simp
  · rcases List.mem_append.1 hx with hx | hx
    · have := h3 x hx; dsimp only; omega
    · simp at hx; subst hx; dsimp only; omega
/-- Behind the first one. -/
def MMs (L : List Int) (p : Int × Int) : Prop := L = [] ∨ IsMM L p
theorem MMs.first (b : Int) : IsMM ([] ++ [b]) (min b b, max b b) := by
  rw [Int.min_self, Int.max_self]; exact .one b
def col (Ls : List (List Int)) (i : Nat) : List Int := Ls.filterMap (fun l => l[i]?)
theorem col_snoc (Ls : List (List Int)) (l : List Int) (i : Nat) : col (Ls ++ [l]) i = col Ls i ++ (match l[i]? with | none => [] | some n => [n]) := by
  unfold col
  rw [List.filterMap_append]
  congr 1
  simp only [List.filterMap_cons, List.filterMap_nil]
  cases l[i]? <;> rfl
structure IsDue (Ls : List (List Int)) (due : List (Int × Int)) : Prop where
  len : ∀ i, i < due.length ↔ ∃ l ∈ Ls, i < l.length
  at_ : ∀ (i : Nat) (d : Int × Int), due[i]? = some d → IsMM (col Ls i) d
/-- The first j minutes of one more list are looked at. -/
structure DueP (Ls : List (List Int)) (l : List Int) (j : Nat) (due : List (Int × Int)) : Prop where
  len : ∀ i, i < due.length ↔ (∃ m ∈ Ls, i < m.length) ∨ i < j
  at_ : ∀ (i : Nat) (d : Int × Int), due[i]? = some d → if i < j then IsMM (col (Ls ++ [l]) i) d else IsMM (col Ls i) d
theorem IsDue.nil : IsDue [] [] := ⟨by simp, by simp⟩
theorem IsDue.start {Ls : List (List Int)} {due : List (Int × Int)} (h : IsDue Ls due) (l : List Int) : DueP Ls l 0 due :=
  ⟨fun i => by rw [h.len]; simp, fun i d hd => by rw [if_neg (by omega)]; exact h.at_ i d hd⟩
theorem DueP.done {Ls : List (List Int)} {l : List Int} {due : List (Int × Int)} (h : DueP Ls l l.length due) : IsDue (Ls ++ [l]) due := by
  refine ⟨fun i => ?_, fun i d hd => ?_⟩
  · rw [h.len]
    constructor
    · rintro (⟨m, hm, hi⟩ | hi)
      · exact ⟨m, by simp [hm], hi⟩
      · exact ⟨l, by simp, hi⟩
    · rintro ⟨m, hm, hi⟩
      rcases List.mem_append.1 hm with hm | hm
      · exact .inl ⟨m, hm, hi⟩
      · simp at hm; subst hm; exact .inr hi
  · have := h.at_ i d hd
    by_cases hi : i < l.length
    · rwa [if_pos hi] at this
    · rw [if_neg hi] at this
      rw [col_snoc, List.getElem?_eq_none (by omega)]
      simpa using this
theorem DueP.le {Ls : List (List Int)} {l : List Int} {j : Nat} {due : List (Int × Int)} (h : DueP Ls l j due) : j ≤ due.length := by
  rcases Nat.eq_zero_or_pos j with h0 | h0
  · omega
  · have := (h.len (j - 1)).2 (.inr (by omega)); omega
/-- A minute of a sill that none passed before. -/
theorem DueP.new {Ls : List (List Int)} {l : List Int} {due : List (Int × Int)} {n : Int} (h : DueP Ls l due.length due) (hn : l[due.length]? = some n) : DueP Ls l (due.length + 1) ((due ++ [(n, n)]).set due.length (min n n, max n n)) := by
  have hc : col Ls due.length = [] := by
    unfold col
    rw [List.filterMap_eq_nil_iff]
    intro m hm
    rw [List.getElem?_eq_none]
    rcases Nat.lt_or_ge due.length m.length with h1 | h1
    · have := (h.len due.length).2 (.inl ⟨m, hm, h1⟩); omega
    · exact h1
  refine ⟨fun i => ?_, fun i d hd => ?_⟩
  · rw [List.length_set, List.length_append, List.length_singleton]
    constructor
    · intro hi; exact .inr (by omega)
    · rintro (hi | hi)
      · have := (h.len i).2 (.inl hi); omega
      · omega
  · by_cases hi : i = due.length
    · subst hi
      rw [List.getElem?_set_self (by simp), Option.some.injEq] at hd
      subst hd
      rw [if_pos (by omega), col_snoc, hn, hc]
      exact MMs.first n
    · rw [List.getElem?_set_ne (Ne.symm hi)] at hd
      have hl := (List.getElem?_eq_some_iff.1 hd).1
      rw [List.length_append, List.length_singleton] at hl
      rw [List.getElem?_append_left (by omega)] at hd
      have := h.at_ i d hd
      rw [if_pos (by omega)] at this
      rw [if_pos (by omega)]
      exact this
theorem DueP.more {Ls : List (List Int)} {l : List Int} {j : Nat} {due : List (Int × Int)} {n : Int} {d : Int × Int} (h : DueP Ls l j due) (hd : due[j]? = some d) (hn : l[j]? = some n) : DueP Ls l (j + 1) (due.set j (min d.1 n, max d.2 n)) := by
  have hj := (List.getElem?_eq_some_iff.1 hd).1
  refine ⟨fun i => ?_, fun i e he => ?_⟩
  · rw [List.length_set, h.len]
    constructor
    · rintro (hi | hi)
      · exact .inl hi
      · exact .inr (by omega)
    · rintro (hi | hi)
      · exact .inl hi
      · by_cases e : i = j
        · subst e
          exact (h.len i).1 hj
        · exact .inr (by omega)
  · by_cases hi : i = j
    · subst hi
      rw [List.getElem?_set_self hj, Option.some.injEq] at he
      subst he
      have := h.at_ i d hd
      rw [if_neg (by omega)] at this
      rw [if_pos (by omega), col_snoc, hn]
      exact this.snoc n
    · rw [List.getElem?_set_ne (Ne.symm hi)] at he
      have := h.at_ i e he
      by_cases hij : i < j
      · rw [if_pos hij] at this
        rw [if_pos (by omega)]
        exact this
      · rw [if_neg hij] at this
        rw [if_neg (by omega)]
        exact this
def IsFew (n : Nat) (Ls : List (List Int)) (f : Nat) : Prop := f ≤ n ∧ (∀ l ∈ Ls, f ≤ l.length) ∧ (f = n ∨ ∃ l ∈ Ls, l.length = f)
theorem IsFew.nil (n : Nat) : IsFew n [] n := ⟨Nat.le_refl _, by simp, .inl rfl⟩
theorem IsFew.snoc {n f : Nat} {Ls : List (List Int)} (h : IsFew n Ls f) (l : List Int) : IsFew n (Ls ++ [l]) (min f l.length) := by
  obtain ⟨h1, h2, h3⟩ := h
  refine ⟨by omega, fun m hm => ?_, ?_⟩
  · rcases List.mem_append.1 hm with hm | hm
    · have := h2 m hm; omega
    · simp at hm; subst hm; omega
  · by_cases hl : f ≤ l.length
    · rw [Nat.min_eq_left hl]
      rcases h3 with h3 | ⟨m, hm, e⟩
      · exact .inl h3
      · exact .inr ⟨m, by simp [hm], e⟩
    · rw [Nat.min_eq_right (by omega)]
      exact .inr ⟨l, by simp, rfl⟩
end Go.Proofs.Ytfcpjkofbejleaa
