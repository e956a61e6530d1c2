/- Facts of small logs: all of them are gone through. Nothing of the program. -/
import Derived.Test.YtgbogdckmfencaaMa
import Derived.Test.YtgbogdckmfencaaMo
set_option linter.unusedSimpArgs false
set_option linter.unusedVariables false
namespace Go.Proofs.Ytgbogdckmfencaa
theorem rng_of {st : Int} {e : Ev} {z : Int} (ho : EvOk e) (h1 : 1 ≤ st) (h : sLo st e ≤ z ∧ z ≤ sHi st e) : (ldRng st e z).1 ≤ (ldRng st e z).2 ∧ -200 ≤ z ∧ z ≤ 200 := by
  obtain ⟨kd, _, _, l1, l2, l3, _, _, _⟩ := ho
  unfold sLo sHi ldLo ldHi at h
  unfold ldRng ldLo ldHi
  dsimp only
  rcases kd with k | k | k <;> rw [k] at h ⊢ <;> simp at h ⊢ <;> omega
theorem of_rng {st : Int} {e : Ev} {z n : Int} (ho : EvOk e) (h : (ldRng st e z).1 ≤ n ∧ n ≤ (ldRng st e z).2) (hz1 : -200 ≤ z) (hz2 : z ≤ 200) : sLo st e ≤ z ∧ z ≤ sHi st e := by
  obtain ⟨kd, _, _, l1, l2, l3, _, _, _⟩ := ho
  unfold ldRng ldLo ldHi at h
  dsimp only at h
  unfold sLo sHi ldLo ldHi
  rcases kd with k | k | k <;> rw [k] at h ⊢ <;> simp at h ⊢ <;> omega
section
variable {st z0 z1 most : Int} {es : List Ev} (h1 : 1 ≤ st) (hm : ∀ e ∈ es, e.sh.tmod st = 0) (ho : ∀ e ∈ es, EvOk e) (hmost : most ≤ 60000)
include h1 hm ho hmost
end
end Go.Proofs.Ytgbogdckmfencaa
namespace Go.Proofs.Ytgbogdckmfencaa
/-- An event of a small log, under a load and with a zero that it was made with. -/
structure EvTiny (st : Int) (e : Ev) (z n : Int) : Prop where
  kd : e.kd = 1 ∨ e.kd = 2 ∨ e.kd = 3
  c0 : -1 ≤ e.c0
  c1 : e.c0 ≤ e.c1
  c2 : e.c1 ≤ 1
  n0 : 0 ≤ n
  n1 : n ≤ 11
  k1 : e.kd = 1 → n = 0
  ld_ : e.ld = if e.kd = 2 then n else 0
  md : e.sh.tmod st = 0
  s0 : n + z + st / 2 - 2 * st < e.sh
  s1 : e.sh ≤ n + z + st / 2 + 2 * st
/-- A small log: the events with the zeros that they were made with. -/
inductive Tiny (st z0 z1 : Int) : List (Ev × Int) → Int → Prop
  | nil (z : Int) (h1 : z0 ≤ z) (h2 : z ≤ z1) : Tiny st z0 z1 [] z
  | snoc (ts : List (Ev × Int)) (z : Int) (e : Ev) (z' n : Int) (h : Tiny st z0 z1 ts z) (he : EvTiny st e z' n) (h1 : z + e.c0 ≤ z') (h2 : z' ≤ z + e.c1) : Tiny st z0 z1 (ts ++ [(e, z')]) z'
theorem Tiny.bd {st z0 z1 : Int} {ts : List (Ev × Int)} {z : Int} (h : Tiny st z0 z1 ts z) (h0 : -2 ≤ z0) (h1 : z1 ≤ 3) : -2 - (ts.length : Int) ≤ z ∧ z ≤ 3 + (ts.length : Int) := by
  induction h with
  | nil z a b => simp; omega
  | snoc ts z e z' n h he a b ih =>
    have := he.c0; have := he.c2
    rw [List.length_append, List.length_singleton]
    push_cast
    omega
theorem Tiny.all {st z0 z1 : Int} {ts : List (Ev × Int)} {z : Int} (h : Tiny st z0 z1 ts z) (h0 : -2 ≤ z0) (h1 : z1 ≤ 3) (hn : ts.length ≤ 4) : ∀ (i : Nat) (p : Ev × Int), ts[i]? = some p → ∃ n, EvTiny st p.1 p.2 n ∧ -6 ≤ p.2 ∧ p.2 ≤ 7 := by
  induction h with
  | nil z a b => intro i p hp; simp at hp
  | snoc ts z e z' n h he a b ih =>
    intro i p hp
    rw [List.length_append, List.length_singleton] at hn
    have hb := h.bd h0 h1
    have := he.c0; have := he.c2; have := he.c1
    by_cases hi : i < ts.length
    · rw [List.getElem?_append_left hi] at hp
      exact ih (by omega) i p hp
    · rw [List.getElem?_append_right (by omega)] at hp
      have : i - ts.length = 0 := by
        rcases Nat.eq_zero_or_pos (i - ts.length) with h | h
        · exact h
        · rw [List.getElem?_eq_none (by simp; omega)] at hp; cases hp
      rw [this] at hp
      simp only [List.getElem?_cons_zero, Option.some.injEq] at hp
      subst hp
      exact ⟨n, he, by omega, by omega⟩
/-- Zeros of truths are near those that the log was made with. -/
theorem Tiny.near {st z0 z1 : Int} {ts : List (Ev × Int)} {z : Int} (h : Tiny st z0 z1 ts z) (hw : z1 ≤ z0 + 3) {es : List Ev} (he : es = ts.map (·.1)) {y : Nat → Int} (hy : FPath st z0 z1 es y) :
    (∀ (i : Nat) (p : Ev × Int), ts[i]? = some p → p.2 - y i ≤ 5 + 2 * (i : Int)) ∧ (ts = [] → z - z0 ≤ 3) ∧ (∀ i, i + 1 = ts.length → z - y i ≤ 5 + 2 * (i : Int)) := by
  subst he
  induction h with
  | nil z a b => exact ⟨fun i p hp => by simp at hp, fun _ => by omega, fun i hi => by simp at hi⟩
  | snoc ts z e z' n h he a b ih =>
    have hlen : (List.map (·.1) (ts ++ [(e, z')])) = ts.map (·.1) ++ [e] := by simp
    rw [hlen] at hy
    have hpre : FPath st z0 z1 (ts.map (·.1)) y := ⟨fun x hx => hy.first x (by rw [List.getElem?_append_left (List.getElem?_eq_some_iff.1 hx).1]; exact hx), fun i x hx => hy.next i x (by rw [List.getElem?_append_left (List.getElem?_eq_some_iff.1 hx).1]; exact hx), fun i x hx => hy.at_ i x (by rw [List.getElem?_append_left (List.getElem?_eq_some_iff.1 hx).1]; exact hx)⟩
    obtain ⟨i1, i2, i3⟩ := ih hpre
    have c0 := he.c0; have c1 := he.c1; have c2 := he.c2
    have hlast : (ts.map (·.1) ++ [e])[ts.length]? = some e := by
      rw [List.getElem?_append_right (by simp)]; simp
    have key : z' - y ts.length ≤ 5 + 2 * (ts.length : Int) := by
      by_cases h0 : ts = []
      · subst h0
        have q := hy.first e (by simp)
        have := i2 rfl
        simp only [List.length_nil] at *
        omega
      · obtain ⟨j, hj⟩ : ∃ j, ts.length = j + 1 := ⟨ts.length - 1, by have := List.length_pos_iff.2 h0; omega⟩
        have q := hy.next j e (by rw [← hj]; exact hlast)
        have := i3 j hj.symm
        rw [hj]
        push_cast
        omega
    refine ⟨fun i p hp => ?_, fun h => by simp at h, fun i hi => ?_⟩
    · by_cases hi : i < ts.length
      · rw [List.getElem?_append_left hi] at hp
        exact i1 i p hp
      · rw [List.getElem?_append_right (by omega)] at hp
        have h0 : i - ts.length = 0 := by
          rcases Nat.eq_zero_or_pos (i - ts.length) with h | h
          · exact h
          · rw [List.getElem?_eq_none (by simp; omega)] at hp; cases hp
        rw [h0] at hp
        simp only [List.getElem?_cons_zero, Option.some.injEq] at hp
        subst hp
        obtain rfl : i = ts.length := by omega
        exact key
    · rw [List.length_append, List.length_singleton] at hi
      obtain rfl : i = ts.length := by omega
      exact key
/-- Loads of truths of small logs are small. -/
theorem Tiny.most {st z0 z1 : Int} {ts : List (Ev × Int)} {z : Int} (h : Tiny st z0 z1 ts z) (hs : 1 ≤ st) (hs3 : st ≤ 3) (h0 : -2 ≤ z0) (h1 : z1 ≤ 3) (hw : z1 ≤ z0 + 3) (hn : ts.length ≤ 4) {es : List Ev} (he : es = ts.map (·.1)) {y : Nat → Int} (hy : FPath st z0 z1 es y) : ∀ i e, es[i]? = some e → (ldRng st e (y i)).2 ≤ 30 := by
  intro i e hie
  have hnear := (h.near hw he hy).1
  subst he
  rw [List.getElem?_map] at hie
  cases hp : ts[i]? with
  | none => rw [hp] at hie; cases hie
  | some p =>
    rw [hp] at hie
    simp only [Option.map_some, Option.some.injEq] at hie
    subst hie
    have hi := (List.getElem?_eq_some_iff.1 hp).1
    obtain ⟨n, ht, _, _⟩ := h.all h0 h1 hn i p hp
    have a := hnear i p hp
    have := ht.s1
    have := ht.n1
    unfold ldRng
    dsimp only
    omega
theorem EvTiny.ok {st : Int} {e : Ev} {z n : Int} (h : EvTiny st e z n) (hs : 1 ≤ st) (hs3 : st ≤ 3) (hz : -6 ≤ z) (hz2 : z ≤ 7) : EvOk e := by
  obtain ⟨kd, c0, c1, c2, n0, n1, k1, hld, md, s0, s1⟩ := h
  refine ⟨kd, by omega, by omega, ?_, ?_, ?_, by omega, c1, by omega⟩
  · rw [hld]; split <;> omega
  · rw [hld]; split <;> omega
  · intro hne
    rw [hld] at hne
    split at hne
    · assumption
    · exact absurd rfl hne
/-- The least and the greatest of the first of some numbers. -/
structure Ends (v : Nat → Int) (n k : Nat) (a b : Int) : Prop where
  all : ∀ j, j < k → a ≤ v j ∧ v j ≤ b
  lo : ∃ j, j < n ∧ v j = a
  hi : ∃ j, j < n ∧ v j = b
theorem Ends.start {v : Nat → Int} {n : Nat} (h : 0 < n) : Ends v n 0 (v 0) (v 0) := ⟨fun j hj => by omega, ⟨0, h, rfl⟩, ⟨0, h, rfl⟩⟩
theorem Ends.step {v : Nat → Int} {n k : Nat} {a b : Int} (h : Ends v n k a b) (hk : k < n) : Ends v n (k + 1) (min a (v k)) (max b (v k)) := by
  refine ⟨fun j hj => ?_, ?_, ?_⟩
  · by_cases hjk : j < k
    · have := h.all j hjk; omega
    · rw [show j = k by omega]; omega
  · by_cases hv : v k < a
    · exact ⟨k, hk, by omega⟩
    · obtain ⟨j, hj, e⟩ := h.lo
      exact ⟨j, hj, by omega⟩
  · by_cases hv : b < v k
    · exact ⟨k, hk, by omega⟩
    · obtain ⟨j, hj, e⟩ := h.hi
      exact ⟨j, hj, by omega⟩
theorem Ends.eq {v : Nat → Int} {n : Nat} {a b lo hi : Int} (h : Ends v n n a b) (hb : ∀ j, j < n → lo ≤ v j ∧ v j ≤ hi) (h1 : ∃ j, j < n ∧ v j = lo) (h2 : ∃ j, j < n ∧ v j = hi) : a = lo ∧ b = hi := by
  obtain ⟨j1, q1, e1⟩ := h.lo
  obtain ⟨j2, q2, e2⟩ := h.hi
  obtain ⟨j3, q3, e3⟩ := h1
  obtain ⟨j4, q4, e4⟩ := h2
  have := hb j1 q1
  have := hb j2 q2
  have := h.all j3 q3
  have := h.all j4 q4
  omega
section
variable {st z0 z1 : Int} {es : List Ev} (h1 : 1 ≤ st) (hm : ∀ e ∈ es, e.sh.tmod st = 0) (ho : ∀ e ∈ es, EvOk e) (hmost : ∀ y, FPath st z0 z1 es y → ∀ i e, es[i]? = some e → (ldRng st e (y i)).2 ≤ 30)
include h1 hm ho hmost
end
end Go.Proofs.Ytgbogdckmfencaa

/-! All facts of a small log: just what is told. Nothing of the program. -/
namespace Go.Proofs.Ytgbogdckmfencaa
/-- The zeros that the reference knows by those before; a zero may be given (gv, zr). -/
def fitOne (st : Int) (e : Ev) (gv zr : Int) (i : Nat) (z : Int) (ok : Int → Bool) : Bool :=
  decide (-200 ≤ z) && decide (z ≤ 200) && !(decide ((ldRng st e z).2 < (ldRng st e z).1) || (decide ((i : Int) = gv) && decide (z ≠ zr))) && (rngL (z - e.c1) (z - e.c0)).any ok
def fitF (st z0 z1 : Int) (es : List Ev) (gv zr : Int) : Nat → Int → Bool
  | 0, z => match es[0]? with
    | some e => fitOne st e gv zr 0 z fun y => decide (z0 ≤ y) && decide (y ≤ z1)
    | none => false
  | i + 1, z => match es[i + 1]? with
    | some e => fitOne st e gv zr (i + 1) z (fitF st z0 z1 es gv zr i)
    | none => false
/-- The zeros that it knows by all: of event n - 1 - d of n. -/
def fitB (st z0 z1 : Int) (es : List Ev) (gv zr : Int) (n : Nat) : Nat → Int → Bool
  | 0, z => fitF st z0 z1 es gv zr (n - 1) z
  | d + 1, z => match es[n - 1 - d]? with
    | some e => fitF st z0 z1 es gv zr (n - 1 - (d + 1)) z && (rngL (z + e.c0) (z + e.c1)).any (fitB st z0 z1 es gv zr n d)
    | none => false
/-- The first zeros of a truth, up to event i. -/
structure PPath (st z0 z1 : Int) (es : List Ev) (gv zr : Int) (i : Nat) (z : Nat → Int) : Prop where
  first : ∀ e : Ev, es[0]? = some e → z0 + e.c0 ≤ z 0 ∧ z 0 ≤ z1 + e.c1
  next : ∀ (j : Nat) (e : Ev), j < i → es[j + 1]? = some e → z j + e.c0 ≤ z (j + 1) ∧ z (j + 1) ≤ z j + e.c1
  at_ : ∀ (j : Nat) (e : Ev), j ≤ i → es[j]? = some e → sLo st e ≤ z j ∧ z j ≤ sHi st e
  giv : ∀ j : Nat, j ≤ i → (j : Int) = gv → z j = zr
theorem any_rng {lo hi : Int} {f : Int → Bool} : (rngL lo hi).any f = true ↔ ∃ y, lo ≤ y ∧ y ≤ hi ∧ f y = true := by
  rw [List.any_eq_true]
  constructor
  · rintro ⟨y, h, k⟩
    have := rngL_mem h
    exact ⟨y, this.1, this.2, k⟩
  · rintro ⟨y, h1, h2, k⟩
    exact ⟨y, mem_rngL h1 h2, k⟩
theorem fitOne_iff {st : Int} {e : Ev} (ho : EvOk e) (h1 : 1 ≤ st) {gv zr : Int} {i : Nat} {z : Int} {ok : Int → Bool} : fitOne st e gv zr i z ok = true ↔ (sLo st e ≤ z ∧ z ≤ sHi st e) ∧ ((i : Int) = gv → z = zr) ∧ ∃ y, z - e.c1 ≤ y ∧ y ≤ z - e.c0 ∧ ok y = true := by
  unfold fitOne
  simp only [Bool.and_eq_true, decide_eq_true_eq, any_rng, Bool.not_eq_true', Bool.or_eq_false_iff, Bool.and_eq_false_iff, decide_eq_false_iff_not, Classical.not_not, ne_eq]
  constructor
  · rintro ⟨⟨⟨a, b⟩, c, d⟩, k⟩
    exact ⟨of_rng (n := (ldRng st e z).1) ho ⟨by omega, by omega⟩ a b, fun hg => d.resolve_left (fun h => h hg), k⟩
  · rintro ⟨s, g, k⟩
    have r := rng_of ho h1 s
    refine ⟨⟨⟨r.2.1, r.2.2⟩, by omega, ?_⟩, k⟩
    by_cases hg : (i : Int) = gv
    · exact .inr (g hg)
    · exact .inl hg
section
variable {st z0 z1 : Int} {es : List Ev} {gv zr : Int}
theorem PPath.pre {i k : Nat} {z : Nat → Int} (h : PPath st z0 z1 es gv zr i z) (hk : k ≤ i) : PPath st z0 z1 es gv zr k z :=
  ⟨h.first, fun j e hj he => h.next j e (by omega) he, fun j e hj he => h.at_ j e (by omega) he, fun j hj => h.giv j (by omega)⟩
/-- Without a zero that is given, what is known by those before is a range. -/
theorem fitF_rng (ho : ∀ e ∈ es, EvOk e) (h1 : 1 ≤ st) (hg : gv < 0) (h01 : z0 ≤ z1) : ∀ (i : Nat) (z : Int), i < es.length → (∀ j, j < i → (bef st z0 z1 es (j + 1)).1 ≤ (bef st z0 z1 es (j + 1)).2) →
    (fitF st z0 z1 es gv zr i z = true ↔ (bef st z0 z1 es (i + 1)).1 ≤ z ∧ z ≤ (bef st z0 z1 es (i + 1)).2) := by
  intro i
  induction i with
  | zero =>
    intro z hi _
    have hv := List.getElem?_eq_getElem hi
    have hc := (ho _ (List.getElem_mem hi)).c2
    rw [fitF, hv]
    try dsimp only
    rw [fitOne_iff (ho _ (List.getElem_mem hi)) h1, bef_succ hi]
    unfold stepR
    rw [bef]
    try dsimp only
    constructor
    · rintro ⟨a, b, y, c, d, e⟩
      simp only [Bool.and_eq_true, decide_eq_true_eq] at e
      omega
    · intro h
      refine ⟨by omega, by omega, max (z - es[0].c1) z0, by omega, by omega, ?_⟩
      simp only [Bool.and_eq_true, decide_eq_true_eq]
      omega
  | succ i ih =>
    intro z hi hf
    have hv := List.getElem?_eq_getElem hi
    have hc := (ho _ (List.getElem_mem hi)).c2
    have hfi := hf i (by omega)
    have ih' := fun y => ih y (by omega) fun j hj => hf j (by omega)
    rw [fitF, hv]
    try dsimp only
    rw [fitOne_iff (ho _ (List.getElem_mem hi)) h1, bef_succ hi]
    simp only [ih']
    unfold stepR
    try dsimp only
    constructor
    · rintro ⟨a, b, y, c, d, e⟩
      omega
    · intro h
      exact ⟨by omega, by omega, max (z - es[i + 1].c1) (bef st z0 z1 es (i + 1)).1, by omega, by omega, by omega, by omega⟩
/-- Behind an event that contradicts, nothing is known. -/
theorem fitF_none (ho : ∀ e ∈ es, EvOk e) (h1 : 1 ≤ st) (hg : gv < 0) (h01 : z0 ≤ z1) {m : Nat} (hF : Fits st z0 z1 es m) (hm : m < es.length) : ∀ (i : Nat) (z : Int), m ≤ i → i < es.length → fitF st z0 z1 es gv zr i z = false := by
  intro i
  induction i with
  | zero =>
    intro z h0 hi
    obtain rfl : m = 0 := by omega
    have := hF.no hm
    cases hb : fitF st z0 z1 es gv zr 0 z with
    | false => rfl
    | true =>
      rw [fitF_rng ho h1 hg h01 0 z hi (by omega)] at hb
      omega
  | succ i ih =>
    intro z h0 hi
    cases hb : fitF st z0 z1 es gv zr (i + 1) z with
    | false => rfl
    | true =>
      by_cases hmi : m = i + 1
      · subst hmi
        have := hF.no hm
        rw [fitF_rng ho h1 hg h01 (i + 1) z hi (fun j hj => hF.yes j hj)] at hb
        omega
      · have hv := List.getElem?_eq_getElem hi
        rw [fitF, hv] at hb
        dsimp only at hb
        rw [fitOne_iff (ho _ (List.getElem_mem hi)) h1] at hb
        obtain ⟨_, _, y, _, _, c⟩ := hb
        rw [ih y (by omega) (by omega)] at c
        cases c
/-- What is known by all is the range that is told. -/
theorem fitB_rng (ho : ∀ e ∈ es, EvOk e) (h1 : 1 ≤ st) (hg : gv < 0) (h01 : z0 ≤ z1) (hF : Fits st z0 z1 es es.length) (hne : ∀ i, i < es.length → (zst st z0 z1 es 0 i).1 ≤ (zst st z0 z1 es 0 i).2) : ∀ (d : Nat) (z : Int), d < es.length →
    (fitB st z0 z1 es gv zr es.length d z = true ↔ (zst st z0 z1 es 0 (es.length - 1 - d)).1 ≤ z ∧ z ≤ (zst st z0 z1 es 0 (es.length - 1 - d)).2) := by
  intro d
  induction d with
  | zero =>
    intro z hd
    rw [fitB, fitF_rng ho h1 hg h01 _ _ (by omega) (fun j hj => hF.yes j (by omega)), zst_top (i := es.length - 1 - 0) (by omega)]
    rfl
  | succ d ih =>
    intro z hd
    have hi : es.length - 1 - d < es.length := by omega
    have hv := List.getElem?_eq_getElem hi
    have hc := (ho _ (List.getElem_mem hi)).c2
    have hn := hne _ hi
    have hbd := fitF_rng (zr := zr) ho h1 hg h01 (es.length - 1 - (d + 1)) z (by omega) (fun j hj => hF.yes j (by omega))
    obtain ⟨i, hii⟩ : ∃ i, es.length - 1 - (d + 1) = i := ⟨_, rfl⟩
    have h2 : es.length - 1 - d = i + 1 := by omega
    rw [fitB, hv]
    try dsimp only
    rw [hii] at hbd ⊢
    simp only [h2] at hv hi ih hc hn ⊢
    rw [Bool.and_eq_true, any_rng, hbd, zst_rec hi]
    have ih' := fun y => ih y (by omega)
    simp only [ih']
    try dsimp only
    constructor
    · rintro ⟨a, y, b, c, k⟩
      omega
    · intro h
      exact ⟨by omega, max (z + es[i + 1].c0) (zst st z0 z1 es 0 (i + 1)).1, by omega, by omega, by omega, by omega⟩
end
section
variable {st z0 z1 : Int} {es : List Ev}
section
variable (h : LogOk st z0 z1 es) (hm : ∀ e ∈ es, e.sh.tmod st = 0) (hmost : ∀ y, FPath st z0 z1 es y → ∀ i e, es[i]? = some e → (ldRng st e (y i)).2 ≤ 30)
include h hm
include hmost
end
end
end Go.Proofs.Ytgbogdckmfencaa
