/- Facts of small logs: all of them are gone through. Nothing of the program. -/
import Derived.Test.YtgbogdckmfencaaMa
import Derived.Test.YtgbogdckmfencaaMo
set_option linter.unusedSimpArgs false
set_option linter.unusedVariables false
namespace Go.Proofs.Ytgbogdckmfencaa
/-- A list of numbers as a function. -/
def atF (l : List Int) (i : Nat) : Int := match l[i]? with
  | some y => y
  | none => 0
theorem atF_get {l : List Int} {i : Nat} (h : i < l.length) : atF l i = l[i] := by unfold atF; rw [List.getElem?_eq_getElem h]
theorem atF_pre {l m : List Int} (h : l <+: m) {i : Nat} (hi : i < l.length) : atF m i = atF l i := by
  obtain ⟨t, rfl⟩ := h
  unfold atF
  rw [List.getElem?_append_left hi]
theorem atF_map (f : Nat → Int) {n i : Nat} (h : i < n) : atF ((List.range n).map f) i = f i := by
  rw [atF_get (by simpa using h)]; simp
/-- What the zero of the next event comes from. -/
def frm (z0 z1 : Int) (zs : List Int) (i : Nat) : Int × Int := if i = 0 then (z0, z1) else (atF zs (i - 1), atF zs (i - 1))
/-- Whether a zero and a load may be at an event. -/
def okd (st : Int) (e : Ev) (z n : Int) : Bool := !(decide (z < -200) || decide (200 < z) || (decide (e.kd = 1) && decide (n ≠ 0)) || (decide (e.kd = 2) && decide (n ≠ e.ld)) || decide (shows st n z ≠ e.sh))
/-- All facts that go on from one, in the order in which they are gone through. -/
def exs (st z0 z1 most : Int) (es : List Ev) : Nat → List Int × List Int → List (List Int × List Int)
  | 0, f => [f]
  | d + 1, f => match es[f.1.length]? with
    | none => []
    | some e => (rngL ((frm z0 z1 f.1 f.1.length).1 + e.c0) ((frm z0 z1 f.1 f.1.length).2 + e.c1)).flatMap fun z => (rngL 0 most).flatMap fun n => if okd st e z n then exs st z0 z1 most es d (f.1 ++ [z], f.2 ++ [n]) else []
structure Stp (st z0 z1 most : Int) (es : List Ev) (p : List Int × List Int) (i : Nat) (e : Ev) : Prop where
  lo : (frm z0 z1 p.1 i).1 + e.c0 ≤ atF p.1 i
  hi : atF p.1 i ≤ (frm z0 z1 p.1 i).2 + e.c1
  n0 : 0 ≤ atF p.2 i
  n1 : atF p.2 i ≤ most
  ok : okd st e (atF p.1 i) (atF p.2 i) = true
theorem pre_snoc {l m : List Int} {x : Int} : l ++ [x] <+: m ↔ l <+: m ∧ l.length < m.length ∧ atF m l.length = x := by
  constructor
  · rintro ⟨t, rfl⟩
    refine ⟨⟨[x] ++ t, by simp⟩, by simp, ?_⟩
    unfold atF
    simp
  · rintro ⟨⟨t, rfl⟩, h, hx⟩
    cases t with
    | nil => simp at h
    | cons y t =>
      have : y = x := by
        unfold atF at hx
        simpa using hx
      subst this
      exact ⟨t, by simp⟩
theorem frm_pre {z0 z1 : Int} {l m : List Int} (h : l <+: m) {i : Nat} (hi : i ≤ l.length) : frm z0 z1 m i = frm z0 z1 l i := by
  unfold frm
  split
  · rfl
  · rw [atF_pre h (by omega)]
theorem exs_mem (st z0 z1 most : Int) (es : List Ev) (p : List Int × List Int) : ∀ (d : Nat) (f : List Int × List Int), f.1.length + d = es.length → f.2.length + d = es.length →
    (p ∈ exs st z0 z1 most es d f ↔ p.1.length = es.length ∧ p.2.length = es.length ∧ f.1 <+: p.1 ∧ f.2 <+: p.2 ∧ ∀ i e, f.1.length ≤ i → es[i]? = some e → Stp st z0 z1 most es p i e) := by
  intro d
  induction d with
  | zero =>
    intro f h1 h2
    rw [exs, List.mem_singleton]
    constructor
    · rintro rfl
      exact ⟨by omega, by omega, List.prefix_refl _, List.prefix_refl _, fun i e hi he => by have := (List.getElem?_eq_some_iff.1 he).1; omega⟩
    · rintro ⟨a, b, c, d, -⟩
      exact Prod.ext (c.eq_of_length (by omega)).symm (d.eq_of_length (by omega)).symm
  | succ d ih =>
    intro f h1 h2
    have hv := List.getElem?_eq_getElem (show f.1.length < es.length by omega)
    rw [exs, hv]
    simp only [List.mem_flatMap]
    constructor
    · rintro ⟨z, hz, n, hn, hp⟩
      split at hp
      · rename_i hok
        rw [ih _ (by simp; omega) (by simp; omega)] at hp
        obtain ⟨a, b, c, d, e⟩ := hp
        obtain ⟨c1, c2, c3⟩ := pre_snoc.1 c
        obtain ⟨d1, d2, d3⟩ := pre_snoc.1 d
        have hz := rngL_mem hz
        have hn := rngL_mem hn
        rw [show f.2.length = f.1.length by omega] at d3
        refine ⟨a, b, c1, d1, fun i x hi hx => ?_⟩
        by_cases hil : i = f.1.length
        · subst hil
          rw [hv] at hx
          cases hx
          have hf := frm_pre (z0 := z0) (z1 := z1) c1 (Nat.le_refl _)
          exact ⟨by rw [hf, c3]; exact hz.1, by rw [hf, c3]; exact hz.2, by rw [d3]; exact hn.1, by rw [d3]; exact hn.2, by rw [c3, d3]; exact hok⟩
        · exact e i x (by simp; omega) hx
      · cases hp
    · rintro ⟨a, b, c, d, e⟩
      have hs := e _ _ (Nat.le_refl _) hv
      have hf := frm_pre (z0 := z0) (z1 := z1) c (Nat.le_refl _)
      obtain ⟨s1, s2, s3, s4, s5⟩ := hs
      rw [hf] at s1 s2
      refine ⟨_, mem_rngL s1 s2, _, mem_rngL s3 s4, ?_⟩
      rw [if_pos s5, ih _ (by simp; omega) (by simp; omega)]
      exact ⟨a, b, pre_snoc.2 ⟨c, by omega, rfl⟩, pre_snoc.2 ⟨d, by omega, by rw [show f.2.length = f.1.length by omega]⟩, fun i x hi hx => e i x (by simp at hi; omega) hx⟩
theorem shows_iff {st n z sh : Int} (h1 : 1 ≤ st) (hm : sh.tmod st = 0) : shows st n z = sh ↔ sh ≤ n + z + st / 2 ∧ n + z + st / 2 < sh + st := by
  unfold shows
  obtain ⟨m, hm'⟩ : ∃ m, n + z + st / 2 = m := ⟨_, rfl⟩
  rw [hm']
  have hd : st ∣ sh := Int.dvd_of_tmod_eq_zero hm
  obtain ⟨q, rfl⟩ := hd
  have he := Int.emod_add_mul_ediv m st
  have h0 := Int.emod_nonneg m (show st ≠ 0 by omega)
  have h2 := Int.emod_lt_of_pos m (show 0 < st by omega)
  constructor
  · intro h
    have : m = m % st + st * q := by omega
    omega
  · rintro ⟨a, b⟩
    have : m / st = q := by
      refine (Int.ediv_eq_iff_of_pos (by omega)).2 ⟨?_, ?_⟩
      · rw [Int.mul_comm]; exact a
      · rw [Int.mul_comm]; omega
    rw [this] at he
    omega
theorem okd_iff {st : Int} {e : Ev} {z n most : Int} (h1 : 1 ≤ st) (hm : e.sh.tmod st = 0) (ho : EvOk e) (hmost : most ≤ 60000) :
    (okd st e z n = true ∧ 0 ≤ n ∧ n ≤ most) ↔ (-200 ≤ z ∧ z ≤ 200 ∧ (ldRng st e z).1 ≤ n ∧ n ≤ (ldRng st e z).2 ∧ n ≤ most) := by
  have hsh := shows_iff (n := n) (z := z) h1 hm
  obtain ⟨kd, _, _, l1, l2, l3, _, _, _⟩ := ho
  unfold okd ldRng ldLo ldHi
  simp only [Bool.not_eq_true', Bool.or_eq_false_iff, Bool.and_eq_false_iff, decide_eq_false_iff_not, Classical.not_not, hsh, ne_eq]
  rcases kd with k | k | k <;> simp only [k] <;> simp <;> omega
theorem rng_of {st : Int} {e : Ev} {z : Int} (ho : EvOk e) (h1 : 1 ≤ st) (h : sLo st e ≤ z ∧ z ≤ sHi st e) : (ldRng st e z).1 ≤ (ldRng st e z).2 ∧ -200 ≤ z ∧ z ≤ 200 := by
  obtain ⟨kd, _, _, l1, l2, l3, _, _, _⟩ := ho
  unfold sLo sHi ldLo ldHi at h
  unfold ldRng ldLo ldHi
  dsimp only
  rcases kd with k | k | k <;> rw [k] at h ⊢ <;> simp at h ⊢ <;> omega
theorem of_rng {st : Int} {e : Ev} {z n : Int} (ho : EvOk e) (h : (ldRng st e z).1 ≤ n ∧ n ≤ (ldRng st e z).2) (hz1 : -200 ≤ z) (hz2 : z ≤ 200) : sLo st e ≤ z ∧ z ≤ sHi st e := by
  obtain ⟨kd, _, _, l1, l2, l3, _, _, _⟩ := ho
  unfold ldRng ldLo ldHi at h
  dsimp only at h
  unfold sLo sHi ldLo ldHi
  rcases kd with k | k | k <;> rw [k] at h ⊢ <;> simp at h ⊢ <;> omega
section
variable {st z0 z1 most : Int} {es : List Ev} (h1 : 1 ≤ st) (hm : ∀ e ∈ es, e.sh.tmod st = 0) (ho : ∀ e ∈ es, EvOk e) (hmost : most ≤ 60000)
include h1 hm ho hmost
theorem exs_path {p : List Int × List Int} (hp : p ∈ exs st z0 z1 most es es.length ([], [])) : p.1.length = es.length ∧ p.2.length = es.length ∧ FPath st z0 z1 es (atF p.1) ∧ ∀ i e, es[i]? = some e → (ldRng st e (atF p.1 i)).1 ≤ atF p.2 i ∧ atF p.2 i ≤ (ldRng st e (atF p.1 i)).2 := by
  rw [exs_mem _ _ _ _ _ _ _ _ (by simp) (by simp)] at hp
  obtain ⟨a, b, -, -, c⟩ := hp
  have key : ∀ i e, es[i]? = some e → _ := fun i e he => by
    have s := c i e (Nat.zero_le _) he
    have hmem := List.mem_of_getElem? he
    have := (okd_iff (most := most) h1 (hm e hmem) (ho e hmem) hmost).1 ⟨s.ok, s.n0, s.n1⟩
    exact And.intro s this
  refine ⟨a, b, ⟨fun e he => ?_, fun i e he => ?_, fun i e he => ?_⟩, fun i e he => ?_⟩
  · have s := (key 0 e he).1
    have l := s.lo
    have h := s.hi
    unfold frm at l h
    rw [if_pos rfl] at l h
    exact ⟨l, h⟩
  · have s := (key (i + 1) e he).1
    have l := s.lo
    have h := s.hi
    unfold frm at l h
    rw [if_neg (by omega)] at l h
    exact ⟨l, h⟩
  · obtain ⟨-, q1, q2, q3, q4, q5⟩ := key i e he
    exact of_rng (ho e (List.mem_of_getElem? he)) ⟨q3, q4⟩ q1 q2
  · obtain ⟨-, q1, q2, q3, q4, q5⟩ := key i e he
    exact ⟨q3, q4⟩
theorem path_exs {z n : Nat → Int} (hz : FPath st z0 z1 es z) (hn : ∀ i e, es[i]? = some e → (ldRng st e (z i)).1 ≤ n i ∧ n i ≤ (ldRng st e (z i)).2 ∧ n i ≤ most) :
    ((List.range es.length).map z, (List.range es.length).map n) ∈ exs st z0 z1 most es es.length ([], []) := by
  rw [exs_mem _ _ _ _ _ _ _ _ (by simp) (by simp)]
  refine ⟨by simp, by simp, List.nil_prefix, List.nil_prefix, fun i e _ he => ?_⟩
  have hi := (List.getElem?_eq_some_iff.1 he).1
  have hmem := List.mem_of_getElem? he
  obtain ⟨a, b, c⟩ := hn i e he
  have hb := rng_of (ho e hmem) h1 (hz.at_ i e he)
  obtain ⟨q1, q2, q3⟩ := (okd_iff (most := most) h1 (hm e hmem) (ho e hmem) hmost).2 ⟨hb.2.1, hb.2.2, a, b, c⟩
  have e1 : atF ((List.range es.length).map z) i = z i := atF_map z hi
  have e2 : atF ((List.range es.length).map n) i = n i := atF_map n hi
  refine ⟨?_, ?_, by dsimp only; rw [e2]; exact q2, by dsimp only; rw [e2]; exact q3, by dsimp only; rw [e1, e2]; exact q1⟩
  · dsimp only
    rw [e1]
    unfold frm
    split
    · rename_i h0; subst h0; exact (hz.first e he).1
    · rename_i h0
      obtain ⟨j, rfl⟩ : ∃ j, i = j + 1 := ⟨i - 1, by omega⟩
      rw [Nat.add_sub_cancel, atF_map z (by omega)]
      exact (hz.next j e he).1
  · dsimp only
    rw [e1]
    unfold frm
    split
    · rename_i h0; subst h0; exact (hz.first e he).2
    · rename_i h0
      obtain ⟨j, rfl⟩ : ∃ j, i = j + 1 := ⟨i - 1, by omega⟩
      rw [Nat.add_sub_cancel, atF_map z (by omega)]
      exact (hz.next j e he).2
end
end Go.Proofs.Ytgbogdckmfencaa
namespace Go.Proofs.Ytgbogdckmfencaa
/-- An event of a small log, under a load and with a zero that it was made with. -/
structure EvTiny (st : Int) (e : Ev) (z n : Int) : Prop where
  kd : e.kd = 1 ∨ e.kd = 2 ∨ e.kd = 3
  c0 : -1 ≤ e.c0
  c1 : e.c0 ≤ e.c1
  c2 : e.c1 ≤ 1
  n0 : 0 ≤ n
  n1 : n ≤ 11
  k1 : e.kd = 1 → n = 0
  ld_ : e.ld = if e.kd = 2 then n else 0
  md : e.sh.tmod st = 0
  s0 : n + z + st / 2 - 2 * st < e.sh
  s1 : e.sh ≤ n + z + st / 2 + 2 * st
/-- A small log: the events with the zeros that they were made with. -/
inductive Tiny (st z0 z1 : Int) : List (Ev × Int) → Int → Prop
  | nil (z : Int) (h1 : z0 ≤ z) (h2 : z ≤ z1) : Tiny st z0 z1 [] z
  | snoc (ts : List (Ev × Int)) (z : Int) (e : Ev) (z' n : Int) (h : Tiny st z0 z1 ts z) (he : EvTiny st e z' n) (h1 : z + e.c0 ≤ z') (h2 : z' ≤ z + e.c1) : Tiny st z0 z1 (ts ++ [(e, z')]) z'
theorem Tiny.bd {st z0 z1 : Int} {ts : List (Ev × Int)} {z : Int} (h : Tiny st z0 z1 ts z) (h0 : -2 ≤ z0) (h1 : z1 ≤ 3) : -2 - (ts.length : Int) ≤ z ∧ z ≤ 3 + (ts.length : Int) := by
  induction h with
  | nil z a b => simp; omega
  | snoc ts z e z' n h he a b ih =>
    have := he.c0; have := he.c2
    rw [List.length_append, List.length_singleton]
    push_cast
    omega
theorem Tiny.all {st z0 z1 : Int} {ts : List (Ev × Int)} {z : Int} (h : Tiny st z0 z1 ts z) (h0 : -2 ≤ z0) (h1 : z1 ≤ 3) (hn : ts.length ≤ 4) : ∀ (i : Nat) (p : Ev × Int), ts[i]? = some p → ∃ n, EvTiny st p.1 p.2 n ∧ -6 ≤ p.2 ∧ p.2 ≤ 7 := by
  induction h with
  | nil z a b => intro i p hp; simp at hp
  | snoc ts z e z' n h he a b ih =>
    intro i p hp
    rw [List.length_append, List.length_singleton] at hn
    have hb := h.bd h0 h1
    have := he.c0; have := he.c2; have := he.c1
    by_cases hi : i < ts.length
    · rw [List.getElem?_append_left hi] at hp
      exact ih (by omega) i p hp
    · rw [List.getElem?_append_right (by omega)] at hp
      have : i - ts.length = 0 := by
        rcases Nat.eq_zero_or_pos (i - ts.length) with h | h
        · exact h
        · rw [List.getElem?_eq_none (by simp; omega)] at hp; cases hp
      rw [this] at hp
      simp only [List.getElem?_cons_zero, Option.some.injEq] at hp
      subst hp
      exact ⟨n, he, by omega, by omega⟩
/-- Zeros of truths are near those that the log was made with. -/
theorem Tiny.near {st z0 z1 : Int} {ts : List (Ev × Int)} {z : Int} (h : Tiny st z0 z1 ts z) (hw : z1 ≤ z0 + 3) {es : List Ev} (he : es = ts.map (·.1)) {y : Nat → Int} (hy : FPath st z0 z1 es y) :
    (∀ (i : Nat) (p : Ev × Int), ts[i]? = some p → p.2 - y i ≤ 5 + 2 * (i : Int)) ∧ (ts = [] → z - z0 ≤ 3) ∧ (∀ i, i + 1 = ts.length → z - y i ≤ 5 + 2 * (i : Int)) := by
  subst he
  induction h with
  | nil z a b => exact ⟨fun i p hp => by simp at hp, fun _ => by omega, fun i hi => by simp at hi⟩
  | snoc ts z e z' n h he a b ih =>
    have hlen : (List.map (·.1) (ts ++ [(e, z')])) = ts.map (·.1) ++ [e] := by simp
    rw [hlen] at hy
    have hpre : FPath st z0 z1 (ts.map (·.1)) y := ⟨fun x hx => hy.first x (by rw [List.getElem?_append_left (List.getElem?_eq_some_iff.1 hx).1]; exact hx), fun i x hx => hy.next i x (by rw [List.getElem?_append_left (List.getElem?_eq_some_iff.1 hx).1]; exact hx), fun i x hx => hy.at_ i x (by rw [List.getElem?_append_left (List.getElem?_eq_some_iff.1 hx).1]; exact hx)⟩
    obtain ⟨i1, i2, i3⟩ := ih hpre
    have c0 := he.c0; have c1 := he.c1; have c2 := he.c2
    have hlast : (ts.map (·.1) ++ [e])[ts.length]? = some e := by
      rw [List.getElem?_append_right (by simp)]; simp
    have key : z' - y ts.length ≤ 5 + 2 * (ts.length : Int) := by
      by_cases h0 : ts = []
      · subst h0
        have q := hy.first e (by simp)
        have := i2 rfl
        simp only [List.length_nil] at *
        omega
      · obtain ⟨j, hj⟩ : ∃ j, ts.length = j + 1 := ⟨ts.length - 1, by have := List.length_pos_iff.2 h0; omega⟩
        have q := hy.next j e (by rw [← hj]; exact hlast)
        have := i3 j hj.symm
        rw [hj]
        push_cast
        omega
    refine ⟨fun i p hp => ?_, fun h => by simp at h, fun i hi => ?_⟩
    · by_cases hi : i < ts.length
      · rw [List.getElem?_append_left hi] at hp
        exact i1 i p hp
      · rw [List.getElem?_append_right (by omega)] at hp
        have h0 : i - ts.length = 0 := by
          rcases Nat.eq_zero_or_pos (i - ts.length) with h | h
          · exact h
          · rw [List.getElem?_eq_none (by simp; omega)] at hp; cases hp
        rw [h0] at hp
        simp only [List.getElem?_cons_zero, Option.some.injEq] at hp
        subst hp
        obtain rfl : i = ts.length := by omega
        exact key
    · rw [List.length_append, List.length_singleton] at hi
      obtain rfl : i = ts.length := by omega
      exact key
/-- Loads of truths of small logs are small. -/
theorem Tiny.most {st z0 z1 : Int} {ts : List (Ev × Int)} {z : Int} (h : Tiny st z0 z1 ts z) (hs : 1 ≤ st) (hs3 : st ≤ 3) (h0 : -2 ≤ z0) (h1 : z1 ≤ 3) (hw : z1 ≤ z0 + 3) (hn : ts.length ≤ 4) {es : List Ev} (he : es = ts.map (·.1)) {y : Nat → Int} (hy : FPath st z0 z1 es y) : ∀ i e, es[i]? = some e → (ldRng st e (y i)).2 ≤ 30 := by
  intro i e hie
  have hnear := (h.near hw he hy).1
  subst he
  rw [List.getElem?_map] at hie
  cases hp : ts[i]? with
  | none => rw [hp] at hie; cases hie
  | some p =>
    rw [hp] at hie
    simp only [Option.map_some, Option.some.injEq] at hie
    subst hie
    have hi := (List.getElem?_eq_some_iff.1 hp).1
    obtain ⟨n, ht, _, _⟩ := h.all h0 h1 hn i p hp
    have a := hnear i p hp
    have := ht.s1
    have := ht.n1
    unfold ldRng
    dsimp only
    omega
theorem EvTiny.ok {st : Int} {e : Ev} {z n : Int} (h : EvTiny st e z n) (hs : 1 ≤ st) (hs3 : st ≤ 3) (hz : -6 ≤ z) (hz2 : z ≤ 7) : EvOk e := by
  obtain ⟨kd, c0, c1, c2, n0, n1, k1, hld, md, s0, s1⟩ := h
  refine ⟨kd, by omega, by omega, ?_, ?_, ?_, by omega, c1, by omega⟩
  · rw [hld]; split <;> omega
  · rw [hld]; split <;> omega
  · intro hne
    rw [hld] at hne
    split at hne
    · assumption
    · exact absurd rfl hne
/-- The least and the greatest of the first of some numbers. -/
structure Ends (v : Nat → Int) (n k : Nat) (a b : Int) : Prop where
  all : ∀ j, j < k → a ≤ v j ∧ v j ≤ b
  lo : ∃ j, j < n ∧ v j = a
  hi : ∃ j, j < n ∧ v j = b
theorem Ends.start {v : Nat → Int} {n : Nat} (h : 0 < n) : Ends v n 0 (v 0) (v 0) := ⟨fun j hj => by omega, ⟨0, h, rfl⟩, ⟨0, h, rfl⟩⟩
theorem Ends.step {v : Nat → Int} {n k : Nat} {a b : Int} (h : Ends v n k a b) (hk : k < n) : Ends v n (k + 1) (min a (v k)) (max b (v k)) := by
  refine ⟨fun j hj => ?_, ?_, ?_⟩
  · by_cases hjk : j < k
    · have := h.all j hjk; omega
    · rw [show j = k by omega]; omega
  · by_cases hv : v k < a
    · exact ⟨k, hk, by omega⟩
    · obtain ⟨j, hj, e⟩ := h.lo
      exact ⟨j, hj, by omega⟩
  · by_cases hv : b < v k
    · exact ⟨k, hk, by omega⟩
    · obtain ⟨j, hj, e⟩ := h.hi
      exact ⟨j, hj, by omega⟩
theorem Ends.eq {v : Nat → Int} {n : Nat} {a b lo hi : Int} (h : Ends v n n a b) (hb : ∀ j, j < n → lo ≤ v j ∧ v j ≤ hi) (h1 : ∃ j, j < n ∧ v j = lo) (h2 : ∃ j, j < n ∧ v j = hi) : a = lo ∧ b = hi := by
  obtain ⟨j1, q1, e1⟩ := h.lo
  obtain ⟨j2, q2, e2⟩ := h.hi
  obtain ⟨j3, q3, e3⟩ := h1
  obtain ⟨j4, q4, e4⟩ := h2
  have := hb j1 q1
  have := hb j2 q2
  have := h.all j3 q3
  have := h.all j4 q4
  omega
/-- What the loads of a fact weigh together. -/
def netF (ns : List Int) (F B : List Int) : Int := (F.map fun x => atF ns x.toNat).sum - (B.map fun x => atF ns x.toNat).sum
theorem sum_neg (g : Int → Int) : ∀ l : List Int, (l.map fun x => -g x).sum = -(l.map g).sum := by
  intro l
  induction l with
  | nil => rfl
  | cons a r ih => simp only [List.map_cons, List.sum_cons, ih]; omega
theorem sum_le {f g : Nat → Int} : ∀ n : Nat, (∀ i, i < n → f i ≤ g i) → ((List.range n).map f).sum ≤ ((List.range n).map g).sum := by
  intro n
  induction n with
  | zero => intro _; simp
  | succ n ih =>
    intro h
    have := ih fun i hi => h i (by omega)
    have := h n (by omega)
    rw [List.range_succ]
    simp only [List.map_append, List.map_cons, List.map_nil, List.sum_append, List.sum_cons, List.sum_nil]
    omega
theorem netF_sum {k : Nat} {F B : List Int} (hF : F.Pairwise (· < ·)) (hB : B.Pairwise (· < ·)) (hFm : ∀ x ∈ F, 0 ≤ x ∧ x < (k : Int)) (hBm : ∀ x ∈ B, 0 ≤ x ∧ x < (k : Int)) (ns : List Int) :
    netF ns F B = ((List.range k).map fun i : Nat => (if (i : Int) ∈ F then atF ns i else 0) + (if (i : Int) ∈ B then -atF ns i else 0)).sum := by
  rw [sum_add2, sum_in _ _ F hF hFm, sum_in (fun i => -atF ns i) _ B hB hBm, sum_neg (fun x => atF ns x.toNat)]
  unfold netF
  omega
theorem wtc_at {st : Int} {es : List Ev} {F B : List Int} (hap : ∀ x ∈ F, x ∉ B) {i : Nat} {e : Ev} (he : es[i]? = some e) {z n : Int} (hz1 : -200 ≤ z) (hz2 : z ≤ 200) (h1 : (ldRng st e z).1 ≤ n) (h2 : n ≤ (ldRng st e z).2) :
    (wtc st es F B i z).1 ≤ (if (i : Int) ∈ F then n else 0) + (if (i : Int) ∈ B then -n else 0) ∧ (if (i : Int) ∈ F then n else 0) + (if (i : Int) ∈ B then -n else 0) ≤ (wtc st es F B i z).2 := by
  unfold wtc
  rw [he]
  dsimp only
  rw [if_pos ⟨hz1, hz2⟩]
  unfold wgt
  simp only [List.contains_eq_mem, decide_eq_true_eq]
  have hx := hap (i : Int)
  by_cases c1 : (i : Int) ∈ B
  · have c2 : ¬ (i : Int) ∈ F := fun h => hx h c1
    rw [if_pos c1, if_neg c2, if_pos c1]; dsimp only; omega
  · by_cases c2 : (i : Int) ∈ F
    · rw [if_neg c1, if_pos c2, if_pos c2, if_neg c1]; omega
    · rw [if_neg c1, if_neg c2, if_neg c2, if_neg c1]; dsimp only; omega
theorem wtc_lo {st : Int} {es : List Ev} {F B : List Int} (hap : ∀ x ∈ F, x ∉ B) {i : Nat} {e : Ev} (he : es[i]? = some e) {z : Int} (hz1 : -200 ≤ z) (hz2 : z ≤ 200) :
    (wtc st es F B i z).1 = (if (i : Int) ∈ F then (if (i : Int) ∈ B then (ldRng st e z).2 else (ldRng st e z).1) else 0) + (if (i : Int) ∈ B then -(if (i : Int) ∈ B then (ldRng st e z).2 else (ldRng st e z).1) else 0) ∧
    (wtc st es F B i z).2 = (if (i : Int) ∈ F then (if (i : Int) ∈ B then (ldRng st e z).1 else (ldRng st e z).2) else 0) + (if (i : Int) ∈ B then -(if (i : Int) ∈ B then (ldRng st e z).1 else (ldRng st e z).2) else 0) := by
  unfold wtc
  rw [he]
  dsimp only
  rw [if_pos ⟨hz1, hz2⟩]
  unfold wgt
  simp only [List.contains_eq_mem, decide_eq_true_eq]
  have hx := hap (i : Int)
  by_cases c1 : (i : Int) ∈ B
  · have c2 : ¬ (i : Int) ∈ F := fun h => hx h c1
    simp only [if_pos c1, if_neg c2]; omega
  · by_cases c2 : (i : Int) ∈ F
    · simp only [if_neg c1, if_pos c2]; omega
    · simp only [if_neg c1, if_neg c2]; omega
section
variable {st z0 z1 : Int} {es : List Ev} (h1 : 1 ≤ st) (hm : ∀ e ∈ es, e.sh.tmod st = 0) (ho : ∀ e ∈ es, EvOk e) (hmost : ∀ y, FPath st z0 z1 es y → ∀ i e, es[i]? = some e → (ldRng st e (y i)).2 ≤ 30)
include h1 hm ho hmost
/-- A path with the least, or the greatest, loads on it is gone through. -/
theorem exs_ends {r : Int × Int} {F B : List Int} (hF : F.Pairwise (· < ·)) (hB : B.Pairwise (· < ·)) (hFm : ∀ x ∈ F, 0 ≤ x ∧ x < (es.length : Int)) (hBm : ∀ x ∈ B, 0 ≤ x ∧ x < (es.length : Int)) (hap : ∀ x ∈ F, x ∉ B) (hN : NetIs (FPath st z0 z1 es) (sumLo (wtc st es F B) 0 es.length) (sumHi (wtc st es F B) 0 es.length) r) :
    (∀ p ∈ exs st z0 z1 30 es es.length ([], []), r.1 ≤ netF p.2 F B ∧ netF p.2 F B ≤ r.2) ∧ (∃ p ∈ exs st z0 z1 30 es es.length ([], []), netF p.2 F B = r.1) ∧ ∃ p ∈ exs st z0 z1 30 es es.length ([], []), netF p.2 F B = r.2 := by
  refine ⟨fun p hp => ?_, ?_, ?_⟩
  · obtain ⟨a, b, c, d⟩ := exs_path h1 hm ho (by omega) hp
    have lo := hN.lo _ c
    have hi := hN.hi _ c
    rw [netF_sum hF hB hFm hBm]
    have key : ∀ i, i < es.length → _ := fun i hi => by
      have hv := List.getElem?_eq_getElem hi
      have hb := rng_of (ho _ (List.getElem_mem hi)) h1 (c.at_ i _ hv)
      exact wtc_at (F := F) (B := B) hap hv hb.2.1 hb.2.2 (d i _ hv).1 (d i _ hv).2
    have s1 := sum_le (f := fun i => (wtc st es F B i (atF p.1 i)).1) es.length fun i hi => (key i hi).1
    have s2 := sum_le (g := fun i => (wtc st es F B i (atF p.1 i)).2) es.length fun i hi => (key i hi).2
    unfold sumLo at lo
    unfold sumHi at hi
    simp only [Nat.zero_add] at lo hi
    omega
  · obtain ⟨z, hz, e⟩ := hN.loAt
    have hmz := hmost z hz
    refine ⟨_, path_exs h1 hm ho (by omega) (n := fun i => match es[i]? with | some x => if (i : Int) ∈ B then (ldRng st x (z i)).2 else (ldRng st x (z i)).1 | none => 0) hz (fun i x hx => ?_), ?_⟩
    · rw [hx]
      dsimp only
      have hb := rng_of (ho _ (List.mem_of_getElem? hx)) h1 (hz.at_ i _ hx)
      have := hmz i x hx
      split <;> omega
    · rw [netF_sum hF hB hFm hBm, ← e]
      unfold sumLo
      congr 1
      refine List.map_congr_left fun i hi => ?_
      rw [List.mem_range] at hi
      have hv := List.getElem?_eq_getElem hi
      have hb := rng_of (ho _ (List.getElem_mem hi)) h1 (hz.at_ i _ hv)
      rw [Nat.zero_add, (wtc_lo (F := F) (B := B) hap hv hb.2.1 hb.2.2).1]
      dsimp only
      rw [atF_map _ hi, hv]
  · obtain ⟨z, hz, e⟩ := hN.hiAt
    have hmz := hmost z hz
    refine ⟨_, path_exs h1 hm ho (by omega) (n := fun i => match es[i]? with | some x => if (i : Int) ∈ B then (ldRng st x (z i)).1 else (ldRng st x (z i)).2 | none => 0) hz (fun i x hx => ?_), ?_⟩
    · rw [hx]
      dsimp only
      have hb := rng_of (ho _ (List.mem_of_getElem? hx)) h1 (hz.at_ i _ hx)
      have := hmz i x hx
      split <;> omega
    · rw [netF_sum hF hB hFm hBm, ← e]
      unfold sumHi
      congr 1
      refine List.map_congr_left fun i hi => ?_
      rw [List.mem_range] at hi
      have hv := List.getElem?_eq_getElem hi
      have hb := rng_of (ho _ (List.getElem_mem hi)) h1 (hz.at_ i _ hv)
      rw [Nat.zero_add, (wtc_lo (F := F) (B := B) hap hv hb.2.1 hb.2.2).2]
      dsimp only
      rw [atF_map _ hi, hv]
/-- A zero of a path is gone through. -/
theorem exs_zero {y : Nat → Int} (hy : FPath st z0 z1 es y) : ∃ p ∈ exs st z0 z1 30 es es.length ([], []), ∀ i, i < es.length → atF p.1 i = y i := by
  refine ⟨_, path_exs h1 hm ho (by omega) (n := fun i => match es[i]? with | some x => (ldRng st x (y i)).1 | none => 0) hy (fun i x hx => ?_), fun i hi => atF_map y hi⟩
  rw [hx]
  dsimp only
  have hb := rng_of (ho _ (List.mem_of_getElem? hx)) h1 (hy.at_ i _ hx)
  have := hmost y hy i x hx
  omega
end
/-- There are not too many facts. -/
theorem flat_len {α β : Type} (f : α → List β) (c : Nat) : ∀ l : List α, (∀ x ∈ l, (f x).length ≤ c) → (l.flatMap f).length ≤ l.length * c := by
  intro l
  induction l with
  | nil => intro _; simp
  | cons a r ih =>
    intro h
    have := ih fun x hx => h x (by simp [hx])
    have := h a (by simp)
    rw [List.flatMap_cons, List.length_append, List.length_cons, Nat.succ_mul]
    omega
theorem rngL_len (lo hi : Int) : (rngL lo hi).length = (hi - lo + 1).toNat := by unfold rngL; simp
theorem exs_len {st z0 z1 : Int} {es : List Ev} (hc : ∀ e ∈ es, e.c1 ≤ e.c0 + 2) (hz : z1 ≤ z0 + 3) : ∀ (d : Nat) (f : List Int × List Int), (exs st z0 z1 30 es d f).length ≤ 300 ^ d := by
  intro d
  induction d with
  | zero => intro f; rw [exs]; simp
  | succ d ih =>
    intro f
    rw [exs]
    split
    · simp
    · rename_i e he
      have hw := hc e (List.mem_of_getElem? he)
      have h1 : ∀ z, ((rngL 0 30).flatMap fun n => if okd st e z n then exs st z0 z1 30 es d (f.1 ++ [z], f.2 ++ [n]) else []).length ≤ 31 * 300 ^ d := fun z => by
        have := flat_len (fun n => if okd st e z n then exs st z0 z1 30 es d (f.1 ++ [z], f.2 ++ [n]) else []) (300 ^ d) (rngL 0 30) fun n _ => by
          split
          · exact ih _
          · simp
        rwa [rngL_len, show ((30 : Int) - 0 + 1).toNat = 31 by decide] at this
      have h2 := flat_len (fun z => (rngL 0 30).flatMap fun n => if okd st e z n then exs st z0 z1 30 es d (f.1 ++ [z], f.2 ++ [n]) else []) (31 * 300 ^ d) (rngL ((frm z0 z1 f.1 f.1.length).1 + e.c0) ((frm z0 z1 f.1 f.1.length).2 + e.c1)) fun z _ => h1 z
      rw [rngL_len] at h2
      have h3 : ((frm z0 z1 f.1 f.1.length).2 + e.c1 - ((frm z0 z1 f.1 f.1.length).1 + e.c0) + 1).toNat ≤ 6 := by
        unfold frm
        split <;> dsimp only <;> omega
      have h4 := Nat.mul_le_mul_right (31 * 300 ^ d) h3
      rw [Nat.pow_succ]
      omega
end Go.Proofs.Ytgbogdckmfencaa

/-! All facts of a small log: just what is told. Nothing of the program. -/
namespace Go.Proofs.Ytgbogdckmfencaa
/-- The zeros that the reference knows by those before; a zero may be given (gv, zr). -/
def fitOne (st : Int) (e : Ev) (gv zr : Int) (i : Nat) (z : Int) (ok : Int → Bool) : Bool :=
  decide (-200 ≤ z) && decide (z ≤ 200) && !(decide ((ldRng st e z).2 < (ldRng st e z).1) || (decide ((i : Int) = gv) && decide (z ≠ zr))) && (rngL (z - e.c1) (z - e.c0)).any ok
def fitF (st z0 z1 : Int) (es : List Ev) (gv zr : Int) : Nat → Int → Bool
  | 0, z => match es[0]? with
    | some e => fitOne st e gv zr 0 z fun y => decide (z0 ≤ y) && decide (y ≤ z1)
    | none => false
  | i + 1, z => match es[i + 1]? with
    | some e => fitOne st e gv zr (i + 1) z (fitF st z0 z1 es gv zr i)
    | none => false
/-- The zeros that it knows by all: of event n - 1 - d of n. -/
def fitB (st z0 z1 : Int) (es : List Ev) (gv zr : Int) (n : Nat) : Nat → Int → Bool
  | 0, z => fitF st z0 z1 es gv zr (n - 1) z
  | d + 1, z => match es[n - 1 - d]? with
    | some e => fitF st z0 z1 es gv zr (n - 1 - (d + 1)) z && (rngL (z + e.c0) (z + e.c1)).any (fitB st z0 z1 es gv zr n d)
    | none => false
/-- The first zeros of a truth, up to event i. -/
structure PPath (st z0 z1 : Int) (es : List Ev) (gv zr : Int) (i : Nat) (z : Nat → Int) : Prop where
  first : ∀ e : Ev, es[0]? = some e → z0 + e.c0 ≤ z 0 ∧ z 0 ≤ z1 + e.c1
  next : ∀ (j : Nat) (e : Ev), j < i → es[j + 1]? = some e → z j + e.c0 ≤ z (j + 1) ∧ z (j + 1) ≤ z j + e.c1
  at_ : ∀ (j : Nat) (e : Ev), j ≤ i → es[j]? = some e → sLo st e ≤ z j ∧ z j ≤ sHi st e
  giv : ∀ j : Nat, j ≤ i → (j : Int) = gv → z j = zr
theorem any_rng {lo hi : Int} {f : Int → Bool} : (rngL lo hi).any f = true ↔ ∃ y, lo ≤ y ∧ y ≤ hi ∧ f y = true := by
  rw [List.any_eq_true]
  constructor
  · rintro ⟨y, h, k⟩
    have := rngL_mem h
    exact ⟨y, this.1, this.2, k⟩
  · rintro ⟨y, h1, h2, k⟩
    exact ⟨y, mem_rngL h1 h2, k⟩
theorem fitOne_iff {st : Int} {e : Ev} (ho : EvOk e) (h1 : 1 ≤ st) {gv zr : Int} {i : Nat} {z : Int} {ok : Int → Bool} : fitOne st e gv zr i z ok = true ↔ (sLo st e ≤ z ∧ z ≤ sHi st e) ∧ ((i : Int) = gv → z = zr) ∧ ∃ y, z - e.c1 ≤ y ∧ y ≤ z - e.c0 ∧ ok y = true := by
  unfold fitOne
  simp only [Bool.and_eq_true, decide_eq_true_eq, any_rng, Bool.not_eq_true', Bool.or_eq_false_iff, Bool.and_eq_false_iff, decide_eq_false_iff_not, Classical.not_not, ne_eq]
  constructor
  · rintro ⟨⟨⟨a, b⟩, c, d⟩, k⟩
    exact ⟨of_rng (n := (ldRng st e z).1) ho ⟨by omega, by omega⟩ a b, fun hg => d.resolve_left (fun h => h hg), k⟩
  · rintro ⟨s, g, k⟩
    have r := rng_of ho h1 s
    refine ⟨⟨⟨r.2.1, r.2.2⟩, by omega, ?_⟩, k⟩
    by_cases hg : (i : Int) = gv
    · exact .inr (g hg)
    · exact .inl hg
section
variable {st z0 z1 : Int} {es : List Ev} {gv zr : Int}
theorem PPath.pre {i k : Nat} {z : Nat → Int} (h : PPath st z0 z1 es gv zr i z) (hk : k ≤ i) : PPath st z0 z1 es gv zr k z :=
  ⟨h.first, fun j e hj he => h.next j e (by omega) he, fun j e hj he => h.at_ j e (by omega) he, fun j hj => h.giv j (by omega)⟩
theorem fitF_iff (ho : ∀ e ∈ es, EvOk e) (h1 : 1 ≤ st) (h01 : z0 ≤ z1) : ∀ (i : Nat) (z : Int), i < es.length → (fitF st z0 z1 es gv zr i z = true ↔ ∃ y, PPath st z0 z1 es gv zr i y ∧ y i = z) := by
  intro i
  induction i with
  | zero =>
    intro z hi
    have hv := List.getElem?_eq_getElem hi
    rw [fitF, hv]
    try dsimp only
    rw [fitOne_iff (ho _ (List.getElem_mem hi)) h1]
    constructor
    · rintro ⟨a, b, y, c, d, e⟩
      simp only [Bool.and_eq_true, decide_eq_true_eq] at e
      refine ⟨fun _ => z, ⟨fun x hx => ?_, fun j x hj => by omega, fun j x hj hx => ?_, fun j hj hg => ?_⟩, rfl⟩
      · rw [hv] at hx; cases hx; omega
      · obtain rfl : j = 0 := by omega
        rw [hv] at hx; cases hx; exact a
      · obtain rfl : j = 0 := by omega
        exact b hg
    · rintro ⟨y, p, rfl⟩
      have f := p.first _ hv
      refine ⟨p.at_ 0 _ (Nat.le_refl _) hv, p.giv 0 (Nat.le_refl _), if y 0 - es[0].c1 ≤ z0 then z0 else y 0 - es[0].c1, ?_, ?_, ?_⟩
      · split <;> omega
      · have := (ho _ (List.getElem_mem hi)).c2
        split <;> omega
      · simp only [Bool.and_eq_true, decide_eq_true_eq]
        split <;> omega
  | succ i ih =>
    intro z hi
    have hv := List.getElem?_eq_getElem hi
    rw [fitF, hv]
    try dsimp only
    rw [fitOne_iff (ho _ (List.getElem_mem hi)) h1]
    constructor
    · rintro ⟨a, b, y, c, d, e⟩
      rw [ih y (by omega)] at e
      obtain ⟨f, p, rfl⟩ := e
      refine ⟨fun j => if j = i + 1 then z else f j, ⟨fun x hx => ?_, fun j x hj hx => ?_, fun j x hj hx => ?_, fun j hj hg => ?_⟩, by simp⟩
      · have := p.first x hx
        try dsimp only
        rw [if_neg (by omega)]
        exact this
      · try dsimp only
        rw [if_neg (by omega)]
        by_cases hji : j = i
        · subst hji
          rw [hv] at hx; cases hx
          rw [if_pos rfl]
          omega
        · rw [if_neg (by omega)]
          exact p.next j x (by omega) hx
      · try dsimp only
        split
        · rename_i hji; subst hji
          rw [hv] at hx; cases hx; exact a
        · exact p.at_ j x (by omega) hx
      · try dsimp only
        split
        · rename_i hji; subst hji; exact b hg
        · exact p.giv j (by omega) hg
    · rintro ⟨f, p, rfl⟩
      have n := p.next i _ (Nat.lt_succ_self _) hv
      exact ⟨p.at_ _ _ (Nat.le_refl _) hv, p.giv _ (Nat.le_refl _), f i, by omega, by omega, (ih _ (by omega)).2 ⟨f, p.pre (by omega), rfl⟩⟩
theorem fitB_iff (ho : ∀ e ∈ es, EvOk e) (h1 : 1 ≤ st) (h01 : z0 ≤ z1) {n : Nat} (hn : n ≤ es.length) : ∀ (d : Nat) (z : Int), d < n → (fitB st z0 z1 es gv zr n d z = true ↔ ∃ y, PPath st z0 z1 es gv zr (n - 1) y ∧ y (n - 1 - d) = z) := by
  intro d
  induction d with
  | zero =>
    intro z hd
    rw [fitB, fitF_iff ho h1 h01 _ _ (by omega)]
    rfl
  | succ d ih =>
    intro z hd
    have hi : n - 1 - d < es.length := by omega
    have hv := List.getElem?_eq_getElem hi
    obtain ⟨i, hii⟩ : ∃ i, n - 1 - (d + 1) = i := ⟨_, rfl⟩
    have h2 : n - 1 - d = i + 1 := by omega
    rw [fitB, hv]
    try dsimp only
    rw [hii]
    simp only [h2] at hv hi ih ⊢
    rw [Bool.and_eq_true, any_rng, fitF_iff ho h1 h01 _ _ (by omega)]
    constructor
    · rintro ⟨⟨f, p, rfl⟩, t, a, b, c⟩
      rw [ih t (by omega)] at c
      obtain ⟨g, q, rfl⟩ := c
      refine ⟨fun j => if j ≤ i then f j else g j, ⟨fun x hx => ?_, fun j x hj hx => ?_, fun j x hj hx => ?_, fun j hj hg => ?_⟩, by simp⟩
      · try dsimp only
        rw [if_pos (by omega)]
        exact p.first x hx
      · try dsimp only
        by_cases hji : j = i
        · subst hji
          rw [hv] at hx; cases hx
          rw [if_pos (Nat.le_refl _), if_neg (by omega)]
          omega
        · by_cases hj2 : j < i
          · rw [if_pos (by omega), if_pos (by omega)]
            exact p.next j x hj2 hx
          · rw [if_neg (by omega), if_neg (by omega)]
            exact q.next j x hj hx
      · try dsimp only
        split
        · exact p.at_ j x (by omega) hx
        · exact q.at_ j x hj hx
      · try dsimp only
        split
        · exact p.giv j (by omega) hg
        · exact q.giv j hj hg
    · rintro ⟨f, p, rfl⟩
      have nx := p.next i _ (by omega) hv
      exact ⟨⟨f, p.pre (by omega), rfl⟩, f (i + 1), nx.1, nx.2, (ih _ (by omega)).2 ⟨f, p, rfl⟩⟩
/-- Without a zero that is given, what is known by those before is a range. -/
theorem fitF_rng (ho : ∀ e ∈ es, EvOk e) (h1 : 1 ≤ st) (hg : gv < 0) (h01 : z0 ≤ z1) : ∀ (i : Nat) (z : Int), i < es.length → (∀ j, j < i → (bef st z0 z1 es (j + 1)).1 ≤ (bef st z0 z1 es (j + 1)).2) →
    (fitF st z0 z1 es gv zr i z = true ↔ (bef st z0 z1 es (i + 1)).1 ≤ z ∧ z ≤ (bef st z0 z1 es (i + 1)).2) := by
  intro i
  induction i with
  | zero =>
    intro z hi _
    have hv := List.getElem?_eq_getElem hi
    have hc := (ho _ (List.getElem_mem hi)).c2
    rw [fitF, hv]
    try dsimp only
    rw [fitOne_iff (ho _ (List.getElem_mem hi)) h1, bef_succ hi]
    unfold stepR
    rw [bef]
    try dsimp only
    constructor
    · rintro ⟨a, b, y, c, d, e⟩
      simp only [Bool.and_eq_true, decide_eq_true_eq] at e
      omega
    · intro h
      refine ⟨by omega, by omega, max (z - es[0].c1) z0, by omega, by omega, ?_⟩
      simp only [Bool.and_eq_true, decide_eq_true_eq]
      omega
  | succ i ih =>
    intro z hi hf
    have hv := List.getElem?_eq_getElem hi
    have hc := (ho _ (List.getElem_mem hi)).c2
    have hfi := hf i (by omega)
    have ih' := fun y => ih y (by omega) fun j hj => hf j (by omega)
    rw [fitF, hv]
    try dsimp only
    rw [fitOne_iff (ho _ (List.getElem_mem hi)) h1, bef_succ hi]
    simp only [ih']
    unfold stepR
    try dsimp only
    constructor
    · rintro ⟨a, b, y, c, d, e⟩
      omega
    · intro h
      exact ⟨by omega, by omega, max (z - es[i + 1].c1) (bef st z0 z1 es (i + 1)).1, by omega, by omega, by omega, by omega⟩
/-- Behind an event that contradicts, nothing is known. -/
theorem fitF_none (ho : ∀ e ∈ es, EvOk e) (h1 : 1 ≤ st) (hg : gv < 0) (h01 : z0 ≤ z1) {m : Nat} (hF : Fits st z0 z1 es m) (hm : m < es.length) : ∀ (i : Nat) (z : Int), m ≤ i → i < es.length → fitF st z0 z1 es gv zr i z = false := by
  intro i
  induction i with
  | zero =>
    intro z h0 hi
    obtain rfl : m = 0 := by omega
    have := hF.no hm
    cases hb : fitF st z0 z1 es gv zr 0 z with
    | false => rfl
    | true =>
      rw [fitF_rng ho h1 hg h01 0 z hi (by omega)] at hb
      omega
  | succ i ih =>
    intro z h0 hi
    cases hb : fitF st z0 z1 es gv zr (i + 1) z with
    | false => rfl
    | true =>
      by_cases hmi : m = i + 1
      · subst hmi
        have := hF.no hm
        rw [fitF_rng ho h1 hg h01 (i + 1) z hi (fun j hj => hF.yes j hj)] at hb
        omega
      · have hv := List.getElem?_eq_getElem hi
        rw [fitF, hv] at hb
        dsimp only at hb
        rw [fitOne_iff (ho _ (List.getElem_mem hi)) h1] at hb
        obtain ⟨_, _, y, _, _, c⟩ := hb
        rw [ih y (by omega) (by omega)] at c
        cases c
/-- What is known by all is the range that is told. -/
theorem fitB_rng (ho : ∀ e ∈ es, EvOk e) (h1 : 1 ≤ st) (hg : gv < 0) (h01 : z0 ≤ z1) (hF : Fits st z0 z1 es es.length) (hne : ∀ i, i < es.length → (zst st z0 z1 es 0 i).1 ≤ (zst st z0 z1 es 0 i).2) : ∀ (d : Nat) (z : Int), d < es.length →
    (fitB st z0 z1 es gv zr es.length d z = true ↔ (zst st z0 z1 es 0 (es.length - 1 - d)).1 ≤ z ∧ z ≤ (zst st z0 z1 es 0 (es.length - 1 - d)).2) := by
  intro d
  induction d with
  | zero =>
    intro z hd
    rw [fitB, fitF_rng ho h1 hg h01 _ _ (by omega) (fun j hj => hF.yes j (by omega)), zst_top (i := es.length - 1 - 0) (by omega)]
    rfl
  | succ d ih =>
    intro z hd
    have hi : es.length - 1 - d < es.length := by omega
    have hv := List.getElem?_eq_getElem hi
    have hc := (ho _ (List.getElem_mem hi)).c2
    have hn := hne _ hi
    have hbd := fitF_rng (zr := zr) ho h1 hg h01 (es.length - 1 - (d + 1)) z (by omega) (fun j hj => hF.yes j (by omega))
    obtain ⟨i, hii⟩ : ∃ i, es.length - 1 - (d + 1) = i := ⟨_, rfl⟩
    have h2 : es.length - 1 - d = i + 1 := by omega
    rw [fitB, hv]
    try dsimp only
    rw [hii] at hbd ⊢
    simp only [h2] at hv hi ih hc hn ⊢
    rw [Bool.and_eq_true, any_rng, hbd, zst_rec hi]
    have ih' := fun y => ih y (by omega)
    simp only [ih']
    try dsimp only
    constructor
    · rintro ⟨a, y, b, c, k⟩
      omega
    · intro h
      exact ⟨by omega, max (z + es[i + 1].c0) (zst st z0 z1 es 0 (i + 1)).1, by omega, by omega, by omega, by omega⟩
end
section
variable {st z0 z1 : Int} {es : List Ev}
theorem PPath.full {gv zr : Int} {y : Nat → Int} (p : PPath st z0 z1 es gv zr (es.length - 1) y) : FPath st z0 z1 es y :=
  ⟨p.first, fun i e he => p.next i e (by have := (List.getElem?_eq_some_iff.1 he).1; omega) he, fun i e he => p.at_ i e (by have := (List.getElem?_eq_some_iff.1 he).1; omega) he⟩
theorem FPath.part {gv zr : Int} {y : Nat → Int} {i : Nat} (p : FPath st z0 z1 es y) (hg : ∀ j : Nat, j ≤ i → (j : Int) = gv → y j = zr) : PPath st z0 z1 es gv zr i y :=
  ⟨p.first, fun j e _ he => p.next j e he, fun j e _ he => p.at_ j e he, hg⟩
/-- Each zero that is told is one of a truth. -/
theorem zst_path (h : LogOk st z0 z1 es) (hf : Fits st z0 z1 es es.length) {i : Nat} (hi : i < es.length) {x : Int} (h1 : (zst st z0 z1 es 0 i).1 ≤ x) (h2 : x ≤ (zst st z0 z1 es 0 i).2) : ∃ y, FPath st z0 z1 es y ∧ y i = x := by
  have hb := fitB_rng (zr := 0) (gv := -1) h.ev h.s1 (by omega) h.r2 hf (fun i hi => (zst_good h hf i hi).2.1) (es.length - 1 - i) x (by omega)
  rw [show es.length - 1 - (es.length - 1 - i) = i by omega] at hb
  have hb2 := hb.2 ⟨h1, h2⟩
  rw [fitB_iff h.ev h.s1 h.r2 (Nat.le_refl _) _ _ (by omega), show es.length - 1 - (es.length - 1 - i) = i by omega] at hb2
  obtain ⟨y, p, hy⟩ := hb2
  exact ⟨y, p.full, hy⟩
/-- What is at an event of one of the facts. -/
def zvF (L : List (List Int × List Int)) (i j : Nat) : Int := match L[j]? with
  | some p => atF p.1 i
  | none => 0
def nvF (L : List (List Int × List Int)) (F B : List Int) (j : Nat) : Int := match L[j]? with
  | some p => netF p.2 F B
  | none => 0
section
variable (h : LogOk st z0 z1 es) (hm : ∀ e ∈ es, e.sh.tmod st = 0) (hmost : ∀ y, FPath st z0 z1 es y → ∀ i e, es[i]? = some e → (ldRng st e (y i)).2 ≤ 30)
include h hm
theorem exs_fits (hne : exs st z0 z1 30 es es.length ([], []) ≠ []) : Fits st z0 z1 es es.length := by
  obtain ⟨p, hp⟩ := List.exists_mem_of_ne_nil _ hne
  exact (exs_path h.s1 hm h.ev (by omega) hp).2.2.1.fits
include hmost
theorem exs_none (hno : exs st z0 z1 30 es es.length ([], []) = []) : ¬ Fits st z0 z1 es es.length := by
  intro hf
  by_cases h0 : es.length = 0
  · rw [h0, exs] at hno; cases hno
  · have g := zst_good h hf 0 (by omega)
    obtain ⟨y, hy, _⟩ := zst_path h hf (i := 0) (by omega) (Int.le_refl _) g.2.1
    obtain ⟨p, hp, _⟩ := exs_zero h.s1 hm h.ev hmost hy
    rw [hno] at hp
    cases hp
theorem ends_zero (hf : Fits st z0 z1 es es.length) {L : List (List Int × List Int)} (hL : exs st z0 z1 30 es es.length ([], []) = L) {i : Nat} (hi : i < es.length) {a b : Int} (hE : Ends (zvF L i) L.length L.length a b) : a = (zst st z0 z1 es 0 i).1 ∧ b = (zst st z0 z1 es 0 i).2 := by
  have g := zst_good h hf i hi
  have key : ∀ x, (zst st z0 z1 es 0 i).1 ≤ x → x ≤ (zst st z0 z1 es 0 i).2 → ∃ j, j < L.length ∧ zvF L i j = x := by
    intro x hx1 hx2
    obtain ⟨y, hy, hyx⟩ := zst_path h hf hi hx1 hx2
    obtain ⟨p, hp, hpy⟩ := exs_zero h.s1 hm h.ev hmost hy
    rw [hL] at hp
    obtain ⟨j, hj⟩ := List.mem_iff_getElem?.1 hp
    refine ⟨j, (List.getElem?_eq_some_iff.1 hj).1, ?_⟩
    unfold zvF
    rw [hj]
    dsimp only
    rw [hpy i hi, hyx]
  refine hE.eq (fun j hj => ?_) (key _ (Int.le_refl _) g.2.1) (key _ g.2.1 (Int.le_refl _))
  unfold zvF
  rw [List.getElem?_eq_getElem hj]
  dsimp only
  have hp : L[j] ∈ exs st z0 z1 30 es es.length ([], []) := by rw [hL]; exact List.getElem_mem hj
  exact (exs_path h.s1 hm h.ev (by omega) hp).2.2.1.zst i hi
theorem ends_net (hf : Fits st z0 z1 es es.length) (hn : 1 ≤ es.length) {L : List (List Int × List Int)} (hL : exs st z0 z1 30 es es.length ([], []) = L) {F B : List Int} (hF : F.Pairwise (· < ·)) (hB : B.Pairwise (· < ·)) (hFm : ∀ x ∈ F, 0 ≤ x ∧ x < (es.length : Int)) (hBm : ∀ x ∈ B, 0 ≤ x ∧ x < (es.length : Int)) (hap : ∀ x ∈ F, x ∉ B) {a b : Int} (hE : Ends (nvF L F B) L.length L.length a b) :
    a = (netOf st es F B (zst st z0 z1 es 0) es.length).1 ∧ b = (netOf st es F B (zst st z0 z1 es 0) es.length).2 := by
  obtain ⟨e1, ⟨p, hp, hp2⟩, ⟨q, hq, hq2⟩⟩ := exs_ends h.s1 hm h.ev hmost hF hB hFm hBm hap (net_paths h hf hn F B)
  rw [hL] at hp hq
  have key : ∀ p ∈ L, ∃ j, j < L.length ∧ nvF L F B j = netF p.2 F B := by
    intro p hp
    obtain ⟨j, hj⟩ := List.mem_iff_getElem?.1 hp
    refine ⟨j, (List.getElem?_eq_some_iff.1 hj).1, ?_⟩
    unfold nvF
    rw [hj]
  obtain ⟨j1, a1, b1⟩ := key p hp
  obtain ⟨j2, a2, b2⟩ := key q hq
  refine hE.eq (fun j hj => ?_) ⟨j1, a1, by rw [b1, hp2]⟩ ⟨j2, a2, by rw [b2, hq2]⟩
  unfold nvF
  rw [List.getElem?_eq_getElem hj]
  dsimp only
  exact e1 _ (by rw [hL]; exact List.getElem_mem hj)
end
end
/-- The loads of the facts of small logs. -/
theorem exs_loads {st z0 z1 : Int} {es : List Ev} {p : List Int × List Int} (h1 : 1 ≤ st) (hm : ∀ e ∈ es, e.sh.tmod st = 0) (ho : ∀ e ∈ es, EvOk e) (hp : p ∈ exs st z0 z1 30 es es.length ([], [])) : p.1.length = es.length ∧ p.2.length = es.length ∧ (∀ y ∈ p.2, 0 ≤ y ∧ y ≤ 30) ∧ ∀ y ∈ p.1, -200 ≤ y ∧ y ≤ 200 := by
  have hp' := hp
  rw [exs_mem _ _ _ _ _ _ _ _ (by simp) (by simp)] at hp'
  obtain ⟨a, b, -, -, c⟩ := hp'
  refine ⟨a, b, fun y hy => ?_, fun y hy => ?_⟩
  · obtain ⟨i, hi, rfl⟩ := List.mem_iff_getElem.1 hy
    have hv := List.getElem?_eq_getElem (show i < es.length by omega)
    have s := c i _ (Nat.zero_le _) hv
    have n0 := s.n0
    have n1 := s.n1
    rw [atF_get hi] at n0 n1
    exact ⟨n0, n1⟩
  · obtain ⟨i, hi, rfl⟩ := List.mem_iff_getElem.1 hy
    have hv := List.getElem?_eq_getElem (show i < es.length by omega)
    have hpth := (exs_path h1 hm ho (by omega) hp).2.2.1
    have r := rng_of (ho _ (List.getElem_mem (show i < es.length by omega))) h1 (hpth.at_ i _ hv)
    rw [atF_get hi] at r
    exact r.2
/-- What is said of small logs. -/
structure TinyOk (st z0 z1 : Int) (es : List Ev) : Prop where
  ck : ckL st z0 z1 es = 0
  log : LogOk st z0 z1 es
  md : ∀ e ∈ es, e.sh.tmod st = 0
  most : ∀ y, FPath st z0 z1 es y → ∀ i e, es[i]? = some e → (ldRng st e (y i)).2 ≤ 30
  cw : ∀ e ∈ es, e.c1 ≤ e.c0 + 2
theorem Tiny.allOk {st z0 z1 : Int} {ts : List (Ev × Int)} {z : Int} (h : Tiny st z0 z1 ts z) (hs : 1 ≤ st) (hs3 : st ≤ 3) (h0 : -2 ≤ z0) (h01 : z0 ≤ z1) (h1 : z1 ≤ 3) (hw : z1 ≤ z0 + 3) (hn : ts.length ≤ 4) : TinyOk st z0 z1 (ts.map (·.1)) := by
  have hall := h.all h0 h1 hn
  have hev : ∀ e ∈ ts.map (·.1), ∃ z n, EvTiny st e z n ∧ -6 ≤ z ∧ z ≤ 7 := by
    intro e he
    obtain ⟨p, hp, rfl⟩ := List.mem_map.1 he
    obtain ⟨i, hi⟩ := List.mem_iff_getElem?.1 hp
    obtain ⟨n, a, b, c⟩ := hall i p hi
    exact ⟨p.2, n, a, b, c⟩
  have hck : ckL st z0 z1 (ts.map (·.1)) = 0 := by
    unfold ckL
    rw [if_neg (by omega), if_neg (by rw [ckR_ok (by omega) h01 (by omega)]; simp), if_neg (by rw [List.length_map]; omega)]
    refine ckEs_all fun e he => ?_
    obtain ⟨z, n, a, b, c⟩ := hev e he
    have o := a.ok hs hs3 b c
    have hmd := a.md
    obtain ⟨kd, s1, s2, l1, l2, l3, c1, c2, c3⟩ := o
    unfold ckE
    rw [if_neg (by omega), if_neg (by omega), if_neg (by omega), if_neg (by omega), if_neg (by intro hh; exact hh.2 (l3 hh.1)), ckR_ok (by omega) c2 (by omega)]
  refine ⟨hck, ckL_zero hck, fun e he => ?_, fun y hy => h.most hs hs3 h0 h1 hw hn rfl hy, fun e he => ?_⟩
  · obtain ⟨z, n, a, b, c⟩ := hev e he
    exact a.md
  · obtain ⟨z, n, a, b, c⟩ := hev e he
    have := a.c0; have := a.c2
    omega
end Go.Proofs.Ytgbogdckmfencaa

/-! Rows of facts: what truths gathers. -/
namespace Go.Proofs.Ytgbogdckmfencaa
open Go Go.RowKit
/-- The two cells of a fact: rows of numbers of one's own. -/
def FactRow (w : World) (b : Nat) (r : List Value) (p : List Int × List Int) : Prop :=
  ∃ (ZA : Option Addr) (zc : Nat) (NA : Option Addr) (nc : Nat), r = [.slice ZA p.1.length zc, .slice NA p.2.length nc] ∧ w.ownsRow b 3 1 (.slice ZA p.1.length zc) p.1.length (ints p.1).flatten ∧ w.ownsRow b 3 1 (.slice NA p.2.length nc) p.2.length (ints p.2).flatten
theorem FactRow.bel {w x : World} {b : Nat} {r : List Value} {p : List Int × List Int} (h : FactRow w b r p) (hb : Below w.heap.size w x) : FactRow x b r p := by
  obtain ⟨ZA, zc, NA, nc, e, h1, h2⟩ := h
  exact ⟨ZA, zc, NA, nc, e, own_bel h1 hb, own_bel h2 hb⟩
/-- A row of another type has grown. -/
theorem FactRow.gr {w x : World} {b b' n s : Nat} {t : TypeId} {v : Value} {xs : List Value} {r : List Value} {p : List Int × List Int} (h : FactRow w b r p) (ho : w.ownsRow b' t s v n xs) (ht : (3 : Nat) ≠ t) (g : w.grownBy x v.ownBlock) : FactRow x b r p := by
  obtain ⟨ZA, zc, NA, nc, e, h1, h2⟩ := h
  exact ⟨ZA, zc, NA, nc, e, h1.kept g (own_ne h1 ho ht), h2.kept g (own_ne h2 ho ht)⟩
theorem FactRow.len {w : World} {b : Nat} {r : List Value} {p : List Int × List Int} (h : FactRow w b r p) : r.length = 2 ∧ ∀ u ∈ r, u.oneCell' = true := by
  obtain ⟨ZA, zc, NA, nc, rfl, _, _⟩ := h
  exact ⟨rfl, by simp [Value.oneCell']⟩
/-- A row of facts of one's own. -/
structure Facts (w : World) (b : Nat) (v : Value) (n : Nat) (L : List (List Int × List Int)) : Prop where
  rows : ∃ rs : List (List Value), w.ownsRow b 32 2 v n rs.flatten ∧ rs.length = n ∧ L.length = n ∧ ∀ (j : Nat) (r : List Value) (p : List Int × List Int), rs[j]? = some r → L[j]? = some p → FactRow w b r p
theorem Facts.nil (w : World) (b : Nat) : Facts w b (.slice none 0 0) 0 [] := ⟨[], World.ownsRow_nil _ _ _ _, rfl, rfl, fun j r p h => by simp at h⟩
theorem Facts.bel {w x : World} {b n : Nat} {v : Value} {L : List (List Int × List Int)} (h : Facts w b v n L) (hb : Below w.heap.size w x) : Facts x b v n L := by
  obtain ⟨rs, h1, h2, h3, h4⟩ := h.rows
  exact ⟨rs, own_bel h1 hb, h2, h3, fun j r p hr hp => (h4 j r p hr hp).bel hb⟩
theorem Facts.own {w : World} {b n : Nat} {v : Value} {L : List (List Int × List Int)} (h : Facts w b v n L) : ∃ xs, w.ownsRow b 32 2 v n xs := by
  obtain ⟨rs, h1, _⟩ := h.rows
  exact ⟨_, h1⟩
theorem Facts.len {w : World} {b n : Nat} {v : Value} {L : List (List Int × List Int)} (h : Facts w b v n L) : L.length = n := by
  obtain ⟨rs, _, _, h3, _⟩ := h.rows
  exact h3
/-- One more fact behind the others. -/
theorem Facts.snoc {w x : World} {b n : Nat} {v v' : Value} {L : List (List Int × List Int)} {r : List Value} {p : List Int × List Int} (h : Facts w b v n L) (hp : FactRow w b r p) {xs : List Value} (ho : w.ownsRow b 32 2 v n xs) (g : w.grownBy x v.ownBlock) (o : x.ownsRow b 32 2 v' (n + 1) (xs ++ r)) : Facts x b v' (n + 1) (L ++ [p]) := by
  obtain ⟨rs, h1, h2, h3, h4⟩ := h.rows
  have hx : xs = rs.flatten := by
    have e1 := ho.2
    have e2 := h1.2
    rcases ho.2 with ⟨rfl, rfl⟩ | ⟨q, cap, cur, rfl, hb, hg, hc, hm, hs, ht⟩
    · rw [List.eq_nil_of_length_eq_zero (show xs.length = 0 by simpa using ho.1), List.eq_nil_of_length_eq_zero (show rs.length = 0 by omega)]
      rfl
    · rcases h1.2 with ⟨k1, _⟩ | ⟨q', cap', cur', k1, hb', hg', hc', hm', hs', ht'⟩
      · simp at k1
      · simp only [Value.slice.injEq, Option.some.injEq, Addr.mk.injEq, and_true, true_and] at k1
        obtain ⟨rfl, rfl⟩ := k1
        rw [hg] at hg'
        simp only [Option.some.injEq, Obj.cells.injEq] at hg'
        rw [← ht, ← ht', hg'.1]
  subst hx
  refine ⟨rs ++ [r], by rw [List.flatten_append, List.flatten_cons, List.flatten_nil, List.append_nil]; exact o, by rw [List.length_append, h2]; rfl, by rw [List.length_append, h3]; rfl, fun j r' p' hr hp' => ?_⟩
  by_cases hj : j < n
  · rw [List.getElem?_append_left (by omega)] at hr hp'
    exact (h4 j r' p' hr hp').gr h1 (by decide) g
  · rw [List.getElem?_append_right (by omega)] at hr hp'
    have hlt := (List.getElem?_eq_some_iff.1 hr).1
    simp at hlt
    have h0 : j - rs.length = 0 := by omega
    have h0' : j - L.length = 0 := by omega
    rw [h0] at hr
    rw [h0'] at hp'
    simp only [List.getElem?_cons_zero, Option.some.injEq] at hr hp'
    subst hr hp'
    exact hp.gr h1 (by decide) g
/-- What is at a number of a row of facts. -/
theorem Facts.at_ {w : World} {b n : Nat} {A : Option Addr} {c : Nat} {L : List (List Int × List Int)} (h : Facts w b (.slice A n c) n L) {j : Nat} (hj : j < n) : ∃ (q : Nat) (ZA : Option Addr) (zc : Nat) (NA : Option Addr) (nc : Nat) (p : List Int × List Int), A = some ⟨q, 0, none⟩ ∧ L[j]? = some p ∧ w.cell? ⟨q, j * 2, none⟩ = some (.slice ZA p.1.length zc) ∧ w.cell? ⟨q, j * 2 + 1, none⟩ = some (.slice NA p.2.length nc) ∧ Sl w w.heap.size 1 ZA (ints p.1) ∧ Sl w w.heap.size 1 NA (ints p.2) ∧ q < w.heap.size := by
  obtain ⟨rs, h1, h2, h3, h4⟩ := h.rows
  obtain ⟨q, rfl⟩ := own_some h1 (by omega)
  have hr := List.getElem?_eq_getElem (show j < rs.length by omega)
  have hp := List.getElem?_eq_getElem (show j < L.length by omega)
  obtain ⟨ZA, zc, NA, nc, e, o1, o2⟩ := h4 j _ _ hr hp
  obtain ⟨A', c', e', hs⟩ := own_sl h1 (fun r hr => by
    obtain ⟨i, hi⟩ := List.mem_iff_getElem?.1 hr
    have hlt := (List.getElem?_eq_some_iff.1 hi).1
    exact (h4 i r _ hi (List.getElem?_eq_getElem (show i < L.length by omega))).len.1) h2
  simp only [Value.slice.injEq] at e'
  obtain ⟨ad, a1, a2, a3⟩ := hs j _ hr
  rw [← e'.1] at a1
  simp only [Option.some.injEq] at a1
  subst a1
  rw [e] at a3
  have c0 := a3 0 _ rfl
  have c1 := a3 1 _ rfl
  rw [addr_q] at c0 c1
  refine ⟨q, ZA, zc, NA, nc, L[j], rfl, hp, ?_, ?_, own_sl2 o1 rfl, own_sl2 o2 rfl, a2⟩
  · have : (⟨q, j * 2, none⟩ : Addr).add 0 = ⟨q, j * 2, none⟩ := by unfold Addr.add; split <;> simp_all
    rw [this] at c0
    exact c0
  · have : (⟨q, j * 2, none⟩ : Addr).add 1 = ⟨q, j * 2 + 1, none⟩ := by unfold Addr.add; split <;> simp_all
    rw [this] at c1
    exact c1
end Go.Proofs.Ytgbogdckmfencaa

/-! truths: all facts of a small log. -/
namespace Go.Proofs.Ytgbogdckmfencaa
open Go Go.RowKit
theorem wpList_app2 {P : Program} {ops : Array Oper} {rest : List Oper} {o : Oper} {a : Act} {w : World} {Q : Exit → Act → World → Prop} (hgd : o.guard = none) (s x : Operand) (t : TypeId)
    (ho : o.op = .call { callee := .builtin .append, args := #[s, x], argTypes := #[t, t] })
    (base : Nat) (e : TypeId) (i : TypeInfo) (z : Value) (size bytes : Nat) (ht : P.underlying t = some (.slice e)) (hi : P.info? e = some i) (hz : i.zero = some z)
    (hsize : i.size = size) (hby : i.bytes = bytes) (hzs : z.cells.size = size) (hsz : 0 < size)
    (v : Value) (n : Nat) (xs : List Value) (hs : a.eval s = v) (hown : w.ownsRow base e size v n xs)
    (ad : Addr) (m c : Nat) (news : List Value) (hx : a.eval x = .slice (some ad) m c) (hl : news.length = m * size) (hnews : ∀ j u, news[j]? = some u → w.cell? (ad.add j) = some u) (h1 : ∀ u ∈ news, u.oneCell' = true)
    (h63 : n + m ≤ maxLen) (hbytes : (n + m) * bytes ≤ 140737488355328) (hbase : base ≤ w.heap.size)
    (h : ∀ v' w', w'.ownsRow base e size v' (n + m) (xs ++ news) → w.grownBy w' v.ownBlock → w'.ownsRow base e size v n xs → (v'.ownBlock = v.ownBlock ∨ ∀ k, v'.ownBlock = some k → w.heap.size ≤ k) → wpList P ops Q rest (a.put o.dst v') w') : wpList P ops Q (o :: rest) a w :=
  wpList_plain hgd fun _ hK => wp_app2 s x t ho base e i z size bytes ht hi hz hsize hby hzs hsz v n xs hs hown ad m c news hx hl hnews h1 h63 hbytes hbase fun v' w' h2 h3 h4 h5 => hK _ _ (h v' w' h2 h3 h4 h5)
/-- What truths says, with so many events left. -/
def TruthsAt (st z0 z1 : Int) (k EC : Nat) (EA : Option Addr) (es : List Ev) (b d : Nat) : Prop :=
  ∀ (zs ns : List Int) (ZA : Option Addr) (zc : Nat) (NA : Option Addr) (nc : Nat) (v : Value) (n : Nat) (L : List (List Int × List Int)) (W : World), zs.length + d = k → ns.length = zs.length → b ≤ W.heap.size → EvsAt W b EA es →
    FactRow W b [.slice ZA zs.length zc, .slice NA ns.length nc] (zs, ns) → (∀ x ∈ zs, -300 ≤ x ∧ x ≤ 300) → Facts W b v n L → n + 300 ^ d ≤ 1000000000000 →
    Calls Try.prog 45 #[.agg #[.int .i64 st, .int .i64 z0, .int .i64 z1, .slice EA k EC], .agg #[.slice ZA zs.length zc, .slice NA ns.length nc], .int .i64 30, v] W fun e w' => ∃ (v' : Value) (n' : Nat), e = .returned v' ∧ Facts w' b v' n' (L ++ exs st z0 z1 30 es d (zs, ns)) ∧ W.grownBy w' v.ownBlock ∧ (v'.ownBlock = v.ownBlock ∨ ∀ k, v'.ownBlock = some k → W.heap.size ≤ k)
theorem info32 : (Try.prog.info? 32).map (fun i => (i.zero, i.size, i.bytes)) = some (some (.agg #[.slice none 0 0, .slice none 0 0]), 2, 48) := by kernel_rfl
set_option maxRecDepth 100000 in
set_option maxHeartbeats 8000000 in
theorem truths_zero (st z0 z1 : Int) (k EC : Nat) (EA : Option Addr) (es : List Ev) (b : Nat) (hel : es.length = k) (hk : k ≤ 14) : TruthsAt st z0 z1 k EC EA es b 0 := by
  intro zs ns ZA zc NA nc v n L W hzl hnl hbW hE hF hzb hL hn
  obtain ⟨i3, hi3, hz3, hs3, iy3⟩ := info_parts info32
  obtain ⟨xs, hown⟩ := hL.own
  obtain ⟨VA, VC, rfl⟩ := own_shape hown
  have hk0 : zs.length = k := by omega
  rw [hnl, hk0] at hF ⊢
  have HZ := Lib.hid (And.intro hk0 hnl)
  have HEL := Lib.hid hel
  clear hk0 hnl hzl hel
  have hkx := (Bx.new W 26 #[.int .i64 st, .int .i64 z0, .int .i64 z1, .slice EA k EC]).alloc (.cells #[.slice ZA k zc, .slice NA k nc] 32)
  have hkf := Bx.at (W.alloc (.cells #[.int .i64 st, .int .i64 z0, .int .i64 z1, .slice EA k EC] 26)) 32 #[.slice ZA k zc, .slice NA k nc] (n := W.heap.size + 1) (by simp)
  have HKX := Lib.hid (And.intro hkx hkf)
  have hownA := ((hown.alloc (.cells #[.int .i64 st, .int .i64 z0, .int .i64 z1, .slice EA k EC] 26)).alloc (.cells #[.slice ZA k zc, .slice NA k nc] 32)).alloc (.cells #[.slice ZA k zc, .slice NA k nc] 32)
  have hFA := ((hF.bel ((Below.refl _ _).alloc (Nat.le_refl _) (.cells #[.int .i64 st, .int .i64 z0, .int .i64 z1, .slice EA k EC] 26))).bel ((Below.refl _ _).alloc (Nat.le_refl _) (.cells #[.slice ZA k zc, .slice NA k nc] 32))).bel ((Below.refl _ _).alloc (Nat.le_refl _) (.cells #[.slice ZA k zc, .slice NA k nc] 32))
  have hLA := ((hL.bel ((Below.refl _ _).alloc (Nat.le_refl _) (.cells #[.int .i64 st, .int .i64 z0, .int .i64 z1, .slice EA k EC] 26))).bel ((Below.refl _ _).alloc (Nat.le_refl _) (.cells #[.slice ZA k zc, .slice NA k nc] 32))).bel ((Below.refl _ _).alloc (Nat.le_refl _) (.cells #[.slice ZA k zc, .slice NA k nc] 32))
  have HO := Lib.hid hownA
  have HFA := Lib.hid (And.intro hFA hLA)
  have kb := Bx.new ((W.alloc (.cells #[.int .i64 st, .int .i64 z0, .int .i64 z1, .slice EA k EC] 26)).alloc (.cells #[.slice ZA k zc, .slice NA k nc] 32)) 32 #[.slice ZA k zc, .slice NA k nc]
  have HKB := Lib.hid kb
  have hgr := Lib.hid (grown_alloc (grown_alloc (grown_alloc (grown_refl W (Value.slice VA n VC).ownBlock) (.cells #[.int .i64 st, .int .i64 z0, .int .i64 z1, .slice EA k EC] 26)) (.cells #[.slice ZA k zc, .slice NA k nc] 32)) (.cells #[.slice ZA k zc, .slice NA k nc] 32))
  clear hkx hkf hownA hFA hLA kb
  go_enter Try.func45, Try.ntmps45
  obtain ⟨⟨l0, l1, l2, l3, lf, lz⟩, f0, f1, ff, fz⟩ := And.intro HKX.out.1.four HKX.out.2.two
  go_wp2_with (first
    | (at_builtin; refine wpList_app2 rfl (.tmp 22) (.tmp 24) 73 rfl b 32 i3 _ 2 48 Try.underlying73 hi3 hz3 hs3 iy3 rfl (by decide) (.slice VA n VC) n xs rfl HO.out ⟨W.heap.size + 1 + 1, 0, none⟩ 1 1 [.slice ZA k zc, .slice NA k nc] rfl rfl (bx_news (by have := HKB.out; simpa using this)) (by simp [Value.oneCell']) (by unfold maxLen; omega) (by omega) (by simp; omega) ?_; intro v' w' o1 o2 o3 o4)
    | fail)
  go_ret
  refine ⟨v', n + 1, rfl, ?_, ?_, ?_⟩
  · rw [exs]
    exact HFA.out.2.snoc HFA.out.1 HO.out o2 o1
  · exact grown_trans hgr.out o2
  · rcases o4 with h | h
    · exact .inl h
    · exact .inr fun k hk => Nat.le_trans (by simp; omega) (h k hk)

end Go.Proofs.Ytgbogdckmfencaa

/-! small: a small log made of numbers. -/
namespace Go.Proofs.Ytgbogdckmfencaa
open Go Go.RowKit
/-- Between two rounds of small's loop. -/
structure SmI (g : Nat) (m : Int) (w : World) (bL : Nat) (st z0 z1 z i : Int) (ts : List (Ev × Int)) (ev : Value) (wr : World) : Prop where
  i0 : 0 ≤ i
  im : (ts.length : Int) + i ≤ m
  ti : Tiny st z0 z1 ts z
  kL : Bx wr bL 26 #[.int .i64 st, .int .i64 z0, .int .i64 z1, ev]
  k4 : Bx wr w.heap.size 26 #[.int .i64 0, .int .i64 0, .int .i64 0, .slice none 0 0]
  oe : wr.ownsRow w.heap.size 28 5 ev ts.length ((ts.map (·.1)).map Ev.cells).flatten
  ft : FT g w wr
theorem mul_mod {st a q : Int} (h : a.tmod st = 0) : (a + q * st).tmod st = 0 := by
  refine Int.tmod_eq_zero_of_dvd ?_
  exact Int.dvd_add (Int.dvd_of_tmod_eq_zero h) (Int.dvd_mul_left _ _)
theorem SmI.step {g : Nat} {m : Int} {w : World} {bL : Nat} {st z0 z1 z i : Int} {ts : List (Ev × Int)} {ev : Value} {wr x : World} (I : SmI g m w bL st z0 z1 z i ts ev wr) (h : FT g wr x) (hL : bL ≠ g) (h4 : w.heap.size ≠ g) : SmI g m w bL st z0 z1 z i ts ev x :=
  ⟨I.i0, I.im, I.ti, h.bx I.kL hL, h.bx I.k4 h4, own_fd I.oe I.ft.2 h.1 (by decide), ⟨grown_trans I.ft.1 h.1, h.2⟩⟩
theorem SmI.set8 {g : Nat} {m : Int} {w : World} {bL b8 : Nat} {st z0 z1 z i : Int} {ts : List (Ev × Int)} {ev : Value} {wr : World} {cs : Array Value} (I : SmI g m w bL st z0 z1 z i ts ev wr) (k : Bx wr b8 28 cs) (h : w.heap.size < b8) (hL : bL ≠ b8) (hg : g ≠ b8) (ho : some b8 ≠ ev.ownBlock) (o : Nat) (u : Value) : SmI g m w bL st z0 z1 z i ts ev (wr.setCell ⟨b8, o, none⟩ u) :=
  ⟨I.i0, I.im, I.ti, I.kL.far hL u, I.k4.far (by simp; omega) u, own_set I.oe ho u, I.ft.set_ (by omega) hg o u⟩
set_option maxRecDepth 100000 in
set_option maxHeartbeats 8000000 in
theorem small_any (g : Nat) (m : Int) (w : World) (h : Fd g w) (hm0 : 0 ≤ m) (hm : m ≤ 4) :
    Calls Try.prog 44 #[.pointer (some ⟨g, 0, none⟩), .int .i64 m] w fun e w' => ∃ (st z0 z1 z : Int) (ts : List (Ev × Int)) (ev : Value), e = .returned (.agg #[.int .i64 st, .int .i64 z0, .int .i64 z1, ev]) ∧ (1 ≤ st ∧ st ≤ 3 ∧ -2 ≤ z0 ∧ z0 ≤ z1 ∧ z1 ≤ 3 ∧ z1 ≤ z0 + 3) ∧ Tiny st z0 z1 ts z ∧ (ts.length : Int) ≤ m ∧ w'.ownsRow w.heap.size 28 5 ev ts.length ((ts.map (·.1)).map Ev.cells).flatten ∧ FT g w w' := by
  have hgl := h.lt
  obtain ⟨i3, hi3, hz3, hs3, iy3⟩ := info_parts info28
  have HT := Lib.hid ((FT.self h).alloc (.cells #[.int .i64 0, .int .i64 0, .int .i64 0, .slice none 0 0] 26))
  have H4 := Lib.hid (Bx.new w 26 #[.int .i64 0, .int .i64 0, .int .i64 0, .slice none 0 0])
  go_enter Try.func44, Try.ntmps44
  go_upto_region 2 with (first
    | (go_at_call 49; refine (between_any g 1 3 _ HT.out.2 (by omega) (by omega) (by omega) (by omega)).mono ?_; rintro e x1 ⟨⟨st, rfl, hs1, hs2⟩, hf1, hg1⟩)
    | (go_at_call 27; refine (range_any g (-2) 3 _ hf1 (by omega) (by omega) (by omega)).mono ?_; rintro e x2 ⟨⟨z0, za, rfl, hz0, hz01, hz1⟩, hf2, hg2⟩)
    | fail)
  have hT2 := ((HT.out.call hg1 hf1).call hg2 hf2).alloc (.cells #[.int .i64 st, .int .i64 z0, .int .i64 za, .slice none 0 0] 26)
  have hg4 : w.heap.size ≠ g := by omega
  have k4 := ((H4.out.grown hg1 (by simpa using hg4)).grown hg2 (by simpa using hg4)).alloc (.cells #[.int .i64 st, .int .i64 z0, .int .i64 za, .slice none 0 0] 26)
  have kL := Bx.new x2 26 #[.int .i64 st, .int .i64 z0, .int .i64 za, .slice none 0 0]
  have hx2 : w.heap.size + 1 ≤ x2.heap.size := by have := hg1.size; have := hg2.size; simp at *; omega
  obtain ⟨X, hX⟩ : ∃ V, x2.alloc (.cells #[.int .i64 st, .int .i64 z0, .int .i64 za, .slice none 0 0] 26) = V := ⟨_, rfl⟩
  rw [hX] at hT2 k4 kL ⊢
  obtain ⟨bL, hbL⟩ : ∃ b, x2.heap.size = b := ⟨_, rfl⟩
  have hLw : w.heap.size < bL := by omega
  have hgL : bL ≠ g := by omega
  rw [hbL] at kL ⊢
  clear hX hbL hx2 HT H4 hg1 hg2 hf1 hf2
  go_cut [] (fun wr => ∃ z1 : Int, z0 ≤ z1 ∧ z1 ≤ z0 + 3 ∧ z1 ≤ 3 ∧ FT g w wr ∧ Bx wr w.heap.size 26 #[.int .i64 0, .int .i64 0, .int .i64 0, .slice none 0 0] ∧ Bx wr bL 26 #[.int .i64 st, .int .i64 z0, .int .i64 z1, .slice none 0 0])
  case first =>
    obtain ⟨l0, l1, l2, l3, lf, lz⟩ := kL.four
    have hw1 : IntKind.i64.wrap (z0 + 3) = z0 + 3 := IntWalk.i64_in _ (by omega)
    by_cases hmn : za ≤ z0 + 3
    · go_wp2_with fail
      all_goals (go_meet; refine ⟨za, by omega, by omega, by omega, hT2.set_ (by omega) (Ne.symm hgL) _ _, k4.far (by simp; omega) _, ?_⟩; have := kL.set_ 2 (.int .i64 za); simp at this ⊢; first | exact this | (rw [if_neg (by omega)]; exact this) | (rw [if_pos (by omega)]; exact this))
    · go_wp2_with fail
      all_goals (go_meet; refine ⟨z0 + 3, by omega, by omega, by omega, hT2.set_ (by omega) (Ne.symm hgL) _ _, k4.far (by simp; omega) _, ?_⟩; have := kL.set_ 2 (.int .i64 (z0 + 3)); simp at this ⊢; first | exact this | (rw [if_pos (by omega)]; exact this) | (rw [if_neg (by omega)]; exact this))
  case rest =>
    obtain ⟨z1, hz2, hz3', hz4, hT, k4', kL'⟩ := hcut
    clear hT2 k4 kL
    obtain ⟨l0, l1, l2, l3, lf, lz⟩ := kL'.four
    go_upto_block 0 with (first
      | (go_at_call 42; refine (in_any g z0 z1 _ hT.2 (by omega) (by omega) (by omega)).mono ?_; rintro e x3 ⟨⟨z, rfl, hza, hzb⟩, hf3, hg3⟩; have hwm : IntKind.i64.wrap (m + 1) = m + 1 := IntWalk.i64_in _ (by omega))
      | (go_at_call 47; refine (below_any g (m + 1) _ hf3 (by omega) (by omega)).mono ?_; rintro e x4 ⟨⟨i0, rfl, hi0, hi1⟩, hf4, hg4'⟩)
      | fail)
    have hT4 := (hT.call hg3 hf3).call hg4' hf4
    have k44 := (k4'.grown hg3 (by simpa using hg4)).grown hg4' (by simpa using hg4)
    have kL4 := (kL'.grown hg3 (by simpa using hgL)).grown hg4' (by simpa using hgL)
    have I0 : SmI g m w bL st z0 z1 z i0 [] (.slice none 0 0) x4 := ⟨hi0, by simp; omega, .nil z hza hzb, kL4, k44, World.ownsRow_nil _ _ _ _, hT4⟩
    clear l0 l1 l2 l3 lf lz hT k4' kL' hf3 hg3 hf4 hg4' hT4 k44 kL4 hza hzb hi0 hi1 hz01 hz1
    go_wp2_with fail
    go_loopw [6, 7] (fun v6 v7 wr => ∃ (z i : Int) (ts : List (Ev × Int)) (ev : Value), v6 = .int .i64 z ∧ v7 = .int .i64 i ∧ SmI g m w bL st z0 z1 z i ts ev wr) (fun _ v7 _ => (intOf v7).toNat)
    case atStart => exact ⟨z, i0, [], _, rfl, rfl, I0⟩
    case round =>
      clear I0
      obtain ⟨z, i, ts, ev, rfl, rfl, I⟩ := hrel
      have hi0 := I.i0
      have him := I.im
      by_cases hip : 0 < i
      · obtain ⟨EA, EC, rfl⟩ := own_shape I.oe
        have hzb := I.ti.bd hz0 hz4
        have htl : ts.length ≤ 3 := by omega
        obtain ⟨l0, l1, l2, l3, lf, lz⟩ := I.kL.four
        go_upto_region 8 with (first
          | (go_at_call 40; refine (either_any g wr.heap.size 4 #[.int .i64 1, .int .i64 2, .int .i64 3, .int .i64 3] (fun r => r = 1 ∨ r = 2 ∨ r = 3) _ (I.ft.2.alloc _) (Bx.new _ _ _) (by have := I.ft.2.lt; omega) (by omega) (by omega) (bx4 _ (by simp) (by simp) (by simp) (by simp))).mono ?_; rintro er y1 ⟨⟨kd, rfl, hkd⟩, hf1, hg1⟩)
          | (go_at_call 27; refine (range_any g (-1) 1 _ hf1 (by omega) (by omega) (by omega)).mono ?_; rintro er y2 ⟨⟨c0, c1, rfl, hc0, hc01, hc1⟩, hf2, hg2⟩)
          | fail)
        clear l0 l1 l2 l3 lf lz
        have hF2 := (((FT.self I.ft.2).alloc (.cells #[.int .i64 1, .int .i64 2, .int .i64 3, .int .i64 3] 3)).call hg1 hf1).call hg2 hf2
        have I2 := I.step (hF2.alloc (.cells #[.int .i64 kd, .int .i64 0, .int .i64 0, .int .i64 c0, .int .i64 c1] 28)) hgL hg4
        have k8 := Bx.new y2 28 #[.int .i64 kd, .int .i64 0, .int .i64 0, .int .i64 c0, .int .i64 c1]
        have hb8 : bL < y2.heap.size := Nat.lt_of_lt_of_le I.kL.lt hF2.size
        have hg8 : g < y2.heap.size := Nat.lt_of_lt_of_le I.ft.2.lt hF2.size
        have ho8 : some y2.heap.size ≠ (Value.slice EA ts.length EC).ownBlock := fun h => by have := (own_fd I.oe I.ft.2 hF2.1 (by decide)).lt _ h.symm; omega
        obtain ⟨Y, hY⟩ : ∃ V, y2.alloc (.cells #[.int .i64 kd, .int .i64 0, .int .i64 0, .int .i64 c0, .int .i64 c1] 28) = V := ⟨_, rfl⟩
        rw [hY] at I2 k8 ⊢
        obtain ⟨b8, hbb8⟩ : ∃ b, y2.heap.size = b := ⟨_, rfl⟩
        rw [hbb8] at k8 hb8 hg8 ho8 ⊢
        clear hY hbb8 I hF2 hf1 hg1 hf2 hg2
        have hL8 : bL ≠ b8 := by omega
        have hg8' : g ≠ b8 := by omega
        have hw8 : w.heap.size < b8 := by omega
        obtain ⟨e0, e1, e2, e3, e4, ef, ez⟩ := k8.five
        go_upto_region 10 with (first
          | (go_at_call 42; refine (in_any g c0 c1 _ I2.ft.2 (by omega) (by omega) (by omega)).mono ?_; rintro er y3 ⟨⟨d, rfl, hd0, hd1⟩, hf3, hg3⟩; have hwz : IntKind.i64.wrap (z + d) = z + d := IntWalk.i64_in _ (by omega))
          | (go_at_call 47; refine (below_any g 12 _ hf3 (by omega) (by omega)).mono ?_; rintro er y4 ⟨⟨n, rfl, hn0, hn1⟩, hf4, hg4'⟩)
          | fail)
        clear e0 e1 e2 e3 e4 ef ez
        have hF4 := ((FT.self I2.ft.2).call hg3 hf3).call hg4' hf4
        have I4 := I2.step hF4 hgL hg4
        have k84 := hF4.bx k8 (Ne.symm hg8')
        have hn11 : 0 ≤ n ∧ n ≤ 11 := by omega
        clear I2 k8 hF4 hf3 hg3 hf4 hg4'
        obtain ⟨l0, l1, l2, l3, lf, lz⟩ := I4.kL.four
        obtain ⟨e0, e1, e2, e3, e4, ef, ez⟩ := k84.five
        rcases hkd with rfl | rfl | rfl
        · go_upto_region 15 with (first | (go_at_call 56; refine (shows_any st 0 (z + d) _ (by omega) (by omega) (by omega) (by omega) (by omega) (by omega)).mono ?_; rintro er y5 ⟨rfl, rfl⟩) | fail)
          clear l0 l1 l2 l3 lf lz e0 e1 e2 e3 e4 ef ez
          have I5 := I4.set8 k84 hw8 hL8 hg8' ho8 1 (.int .i64 (shows st 0 (z + d)))
          have k85 : Bx (World.setCell y4 ⟨b8, 1, none⟩ (.int .i64 (shows st 0 (z + d)))) b8 28 #[.int .i64 1, .int .i64 (shows st 0 (z + d)), .int .i64 0, .int .i64 c0, .int .i64 c1] := by have := k84.set_ 1 (.int .i64 (shows st 0 (z + d))); simpa using this
          obtain ⟨Z5, hZ5⟩ : ∃ V, (World.setCell y4 ⟨b8, 1, none⟩ (.int .i64 (shows st 0 (z + d)))) = V := ⟨_, rfl⟩
          rw [hZ5] at I5 k85 ⊢
          clear hZ5 I4 k84
          have hsb := shows_bd (n := 0) (z := z + d) hs1
          have hsm := shows_mod (st := st) (n := 0) (z := z + d)
          obtain ⟨s0, hs0⟩ : ∃ s, shows st 0 (z + d) = s := ⟨_, rfl⟩
          rw [hs0] at hsb hsm k85
          try rw [hs0]
          clear hs0
          go_upto_if 66 with (first | (go_at_call 37; refine (often_any g 1 9 _ I5.ft.2 (by omega) (by omega)).mono ?_; rintro er y6 ⟨⟨tb, rfl⟩, hf6, hg6⟩) | fail)
          have hF6 := (FT.self I5.ft.2).call hg6 hf6
          have I6 := I5.step hF6 hgL hg4
          have k86 := hF6.bx k85 (Ne.symm hg8')
          clear I5 k85 hF6 hf6 hg6
          cases tb
          · obtain ⟨l0, l1, l2, l3, lf, lz⟩ := I6.kL.four
            obtain ⟨e0, e1, e2, e3, e4, ef, ez⟩ := k86.five
            have hoA := I6.oe.alloc (.cells #[.int .i64 1, .int .i64 s0, .int .i64 0, .int .i64 c0, .int .i64 c1] 28)
            have kb := Bx.new y6 28 #[.int .i64 1, .int .i64 s0, .int .i64 0, .int .i64 c0, .int .i64 c1]
            have kLA := I6.kL.alloc (.cells #[.int .i64 1, .int .i64 s0, .int .i64 0, .int .i64 c0, .int .i64 c1] 28)
            have k4A := I6.k4.alloc (.cells #[.int .i64 1, .int .i64 s0, .int .i64 0, .int .i64 c0, .int .i64 c1] 28)
            have hFA := I6.ft.alloc (.cells #[.int .i64 1, .int .i64 s0, .int .i64 0, .int .i64 c0, .int .i64 c1] 28)
            go_wp2_with (first | (at_builtin; refine wpList_append_own _ rfl (.tmp 78) (.tmp 80) 24 rfl w.heap.size 28 i3 _ 5 40 Try.underlying24 hi3 hz3 hs3 iy3 rfl (by decide) (.slice EA ts.length EC) ts.length ((ts.map (·.1)).map Ev.cells).flatten rfl hoA ⟨World.heap y6 |>.size, 0, none⟩ 1 1 [.int .i64 1, .int .i64 s0, .int .i64 0, .int .i64 c0, .int .i64 c1] rfl rfl (bx_news kb) (by simp [Value.oneCell']) (by unfold maxLen; omega) (by omega) (by have := hFA.size; simp at this ⊢; omega) ?_; intro v' w' o1 o2 o3; obtain ⟨A1, C1, rfl⟩ := own_shape o1; have kLB := kLA.grown o2 (own_bx hoA kLA (by decide)); have k4B := k4A.grown o2 (own_bx hoA k4A (by decide)); obtain ⟨r0, r1, r2, r3, rf, rz⟩ := kLB.four) | fail)
            have hFB := hFA.own hoA o2 (Nat.le_refl _) (by decide)
            have hcell : ((ts.map (·.1)).map Ev.cells).flatten ++ [.int .i64 1, .int .i64 s0, .int .i64 0, .int .i64 c0, .int .i64 c1] = (((ts ++ [((⟨1, s0, 0, c0, c1⟩ : Ev), z + d)]).map (·.1)).map Ev.cells).flatten := by simp [Ev.cells]
            rw [hcell] at o1
            have htiny : Tiny st z0 z1 (ts ++ [((⟨1, s0, 0, c0, c1⟩ : Ev), z + d)]) (z + d) := .snoc ts z _ (z + d) 0 I6.ti ⟨by simp, hc0, hc01, hc1, by omega, by omega, by simp, by simp, hsm, by dsimp only; omega, by dsimp only; omega⟩ (by dsimp only; omega) (by dsimp only; omega)
            have hlen2 : (ts ++ [((⟨1, s0, 0, c0, c1⟩ : Ev), z + d)]).length = ts.length + 1 := by simp
            have IN : SmI g m w bL st z0 z1 (z + d) (i - 1) (ts ++ [((⟨1, s0, 0, c0, c1⟩ : Ev), z + d)]) (.slice A1 (ts.length + 1) C1) (World.setCell w' ⟨bL, 3, none⟩ (.slice A1 (ts.length + 1) C1)) := ⟨by omega, by rw [hlen2]; push_cast; omega, htiny, by have := kLB.set_ 3 (.slice A1 (ts.length + 1) C1); simpa using this, k4B.far (by simp; omega) _, by rw [hlen2]; exact own_set o1 (own_bx o1 kLB (by decide)) _, hFB.set_ (by omega) (Ne.symm hgL) _ _⟩
            go_roundw
            case rel => exact ⟨z + d, i - 1, _, _, rfl, by go_num, IN⟩
            case measure => simp [intOf]; omega
          · go_wp2_with fail
            refine AnyG.startC (by kernel_rfl) ?_
            refine AnyG.takeP (i := 0) (v := ?_) rfl (by kernel_rfl) (fun _ _ _ h => h) rfl ?_ ?_
            rotate_left
            · (intro w'; go_simp; try with_reducible rfl)
            try simp only [Act.put, List.getElem_toArray, List.getElem_cons_succ, List.getElem_cons_zero, List.setIfInBounds_toArray, List.set_cons_zero, List.set_cons_succ]
            refine AnyG.takeP (i := 2) (v := ?_) rfl (by kernel_rfl) (fun _ _ _ h => h) rfl ?_ ?_
            rotate_left
            · (intro w'; go_simp; try with_reducible rfl)
            try simp only [Act.put, List.getElem_toArray, List.getElem_cons_succ, List.getElem_cons_zero, List.setIfInBounds_toArray, List.set_cons_zero, List.set_cons_succ]
            refine AnyG.takeP (i := 5) (v := ?_) rfl (by kernel_rfl) (fun _ _ _ h => h) rfl ?_ ?_
            rotate_left
            · (intro w'; go_simp; try with_reducible rfl)
            try simp only [Act.put, List.getElem_toArray, List.getElem_cons_succ, List.getElem_cons_zero, List.setIfInBounds_toArray, List.set_cons_zero, List.set_cons_succ]
            refine AnyG.enter (fun w' : World => FT g y6 w' ∧ Bx w' b8 28 #[.int .i64 1, .int .i64 s0, .int .i64 0, .int .i64 c0, .int .i64 c1] ∧ Bx w' bL 26 #[.int .i64 st, .int .i64 z0, .int .i64 z1, .slice EA ts.length EC]) (fun i => i != 10) ?_
            have hS : (fun w' : World => FT g y6 w' ∧ Bx w' b8 28 #[.int .i64 1, .int .i64 s0, .int .i64 0, .int .i64 c0, .int .i64 c1] ∧ Bx w' bL 26 #[.int .i64 st, .int .i64 z0, .int .i64 z1, .slice EA ts.length EC]) (World.drew _) := ⟨⟨grown_drew _ _, I6.ft.2.drew⟩, k86.drew, I6.kL.drew⟩
            refine AnyG.takeC (i := 1) (v := ?_) rfl (by kernel_rfl) (fun _ _ _ h => h) rfl ?_ hS ?_
            rotate_left
            · (intro w' hSw; (try dsimp only at hSw); obtain ⟨e0, e1, e2, e3, e4, ef, ez⟩ := hSw.2.1.five; go_simp; try with_reducible rfl)
            try simp only [Act.put, List.getElem_toArray, List.getElem_cons_succ, List.getElem_cons_zero, List.setIfInBounds_toArray, List.set_cons_zero, List.set_cons_succ]
            refine AnyG.takeC (i := 6) (v := ?_) rfl (by kernel_rfl) (fun _ _ _ h => h) rfl ?_ hS ?_
            rotate_left
            · (intro w' hSw; (try dsimp only at hSw); obtain ⟨l0, l1, l2, l3, lf, lz⟩ := hSw.2.2.four; go_simp; try with_reducible rfl)
            try simp only [Act.put, List.getElem_toArray, List.getElem_cons_succ, List.getElem_cons_zero, List.setIfInBounds_toArray, List.set_cons_zero, List.set_cons_succ]
            refine AnyG.one (i := 3) (by kernel_rfl) rfl rfl ?_
            have hlt3 := hS.1.2.lt
            go_simp
            refine Onward.on ⟨hS.1.alloc _, hS.2.1.alloc _, hS.2.2.alloc _⟩ (fun hS2 => ?_)
            clear hS
            have hS := hS2
            clear hS2
            try simp only [Act.put, List.getElem_toArray, List.getElem_cons_succ, List.getElem_cons_zero, List.setIfInBounds_toArray, List.set_cons_zero, List.set_cons_succ]
            refine AnyG.one (i := 4) (by kernel_rfl) rfl rfl ?_
            go_simp
            refine (either_any g _ 3 _ (fun r => r = -1 ∨ r = 1 ∨ r = 2) _ hS.1.2 (Bx.new _ _ _) (Nat.ne_of_gt hlt3) (by omega) (by omega) (bx3 _ (by simp) (by simp) (by simp))).mono ?_
            rintro er y7 ⟨⟨q, rfl, hq⟩, hf7, hg7⟩
            have hqs : -(st) ≤ q * st ∧ q * st ≤ 2 * st := by rcases hq with r | r | r <;> rw [r] <;> omega
            have hwq : IntKind.i64.wrap (q * st) = q * st := IntWalk.i64_in _ (by omega)
            have hwq2 : IntKind.i64.wrap (s0 + q * st) = s0 + q * st := IntWalk.i64_in _ (by omega)
            refine Onward.on ⟨hS.1.call hg7 hf7, hS.2.1.grown hg7 (by simpa using Ne.symm hg8'), hS.2.2.grown hg7 (by simpa using hgL)⟩ (fun hS2 => ?_)
            clear hS
            have hS := hS2
            clear hS2
            try simp only [Act.put, List.getElem_toArray, List.getElem_cons_succ, List.getElem_cons_zero, List.setIfInBounds_toArray, List.set_cons_zero, List.set_cons_succ]
            refine AnyG.takeC (i := 7) (v := ?_) rfl (by kernel_rfl) (fun _ _ _ h => h) rfl ?_ hS ?_
            rotate_left
            · (intro w' hSw; (try dsimp only at hSw); go_simp; try with_reducible rfl)
            try simp only [Act.put, List.getElem_toArray, List.getElem_cons_succ, List.getElem_cons_zero, List.setIfInBounds_toArray, List.set_cons_zero, List.set_cons_succ]
            refine AnyG.takeC (i := 8) (v := ?_) rfl (by kernel_rfl) (fun _ _ _ h => h) rfl ?_ hS ?_
            rotate_left
            · (intro w' hSw; (try dsimp only at hSw); go_simp; try with_reducible rfl)
            try simp only [Act.put, List.getElem_toArray, List.getElem_cons_succ, List.getElem_cons_zero, List.setIfInBounds_toArray, List.set_cons_zero, List.set_cons_succ]
            refine AnyG.takeC (i := 9) (v := ?_) rfl (by kernel_rfl) (fun _ _ _ h => h) rfl ?_ hS ?_
            rotate_left
            · (intro w' hSw; (try dsimp only at hSw); go_simp; try with_reducible rfl)
            try simp only [Act.put, List.getElem_toArray, List.getElem_cons_succ, List.getElem_cons_zero, List.setIfInBounds_toArray, List.set_cons_zero, List.set_cons_succ]
            refine AnyG.one (i := 10) (by kernel_rfl) rfl rfl ?_
            have hF7 := hS.1
            have k87 := hS.2.1
            obtain ⟨e0, e1, e2, e3, e4, ef, ez⟩ := k87.five
            go_simp
            refine Onward.last rfl ?_
            try simp only [Act.put, List.getElem_toArray, List.getElem_cons_succ, List.getElem_cons_zero, List.setIfInBounds_toArray, List.set_cons_zero, List.set_cons_succ]
            refine AnyG.done (by kernel_rfl) ?_ _
            go_simp
            have I7 := (I6.step hF7 hgL hg4).set8 k87 hw8 hL8 hg8' ho8 1 (.int .i64 (s0 + q * st))
            have k88 : Bx (World.setCell y7 ⟨b8, 1, none⟩ (.int .i64 (s0 + q * st))) b8 28 #[.int .i64 1, .int .i64 (s0 + q * st), .int .i64 0, .int .i64 c0, .int .i64 c1] := by have := k87.set_ 1 (.int .i64 (s0 + q * st)); simpa using this
            obtain ⟨Z8, hZ8⟩ : ∃ V, (World.setCell y7 ⟨b8, 1, none⟩ (.int .i64 (s0 + q * st))) = V := ⟨_, rfl⟩
            rw [hZ8] at I7 k88 ⊢
            clear hZ8 I6 k86 k87 hF7 e0 e1 e2 e3 e4 ef ez hS
            obtain ⟨l0, l1, l2, l3, lf, lz⟩ := I7.kL.four
            obtain ⟨e0, e1, e2, e3, e4, ef, ez⟩ := k88.five
            have hoA := I7.oe.alloc (.cells #[.int .i64 1, .int .i64 (s0 + q * st), .int .i64 0, .int .i64 c0, .int .i64 c1] 28)
            have kb := Bx.new Z8 28 #[.int .i64 1, .int .i64 (s0 + q * st), .int .i64 0, .int .i64 c0, .int .i64 c1]
            have kLA := I7.kL.alloc (.cells #[.int .i64 1, .int .i64 (s0 + q * st), .int .i64 0, .int .i64 c0, .int .i64 c1] 28)
            have k4A := I7.k4.alloc (.cells #[.int .i64 1, .int .i64 (s0 + q * st), .int .i64 0, .int .i64 c0, .int .i64 c1] 28)
            have hFA := I7.ft.alloc (.cells #[.int .i64 1, .int .i64 (s0 + q * st), .int .i64 0, .int .i64 c0, .int .i64 c1] 28)
            go_wp2_with (first | (at_builtin; refine wpList_append_own _ rfl (.tmp 78) (.tmp 80) 24 rfl w.heap.size 28 i3 _ 5 40 Try.underlying24 hi3 hz3 hs3 iy3 rfl (by decide) (.slice EA ts.length EC) ts.length ((ts.map (·.1)).map Ev.cells).flatten rfl hoA ⟨World.heap Z8 |>.size, 0, none⟩ 1 1 [.int .i64 1, .int .i64 (s0 + q * st), .int .i64 0, .int .i64 c0, .int .i64 c1] rfl rfl (bx_news kb) (by simp [Value.oneCell']) (by unfold maxLen; omega) (by omega) (by have := hFA.size; simp at this ⊢; omega) ?_; intro v' w' o1 o2 o3; obtain ⟨A1, C1, rfl⟩ := own_shape o1; have kLB := kLA.grown o2 (own_bx hoA kLA (by decide)); have k4B := k4A.grown o2 (own_bx hoA k4A (by decide)); obtain ⟨r0, r1, r2, r3, rf, rz⟩ := kLB.four) | fail)
            have hFB := hFA.own hoA o2 (Nat.le_refl _) (by decide)
            have hcell : ((ts.map (·.1)).map Ev.cells).flatten ++ [.int .i64 1, .int .i64 (s0 + q * st), .int .i64 0, .int .i64 c0, .int .i64 c1] = (((ts ++ [((⟨1, (s0 + q * st), 0, c0, c1⟩ : Ev), z + d)]).map (·.1)).map Ev.cells).flatten := by simp [Ev.cells]
            rw [hcell] at o1
            have htiny : Tiny st z0 z1 (ts ++ [((⟨1, (s0 + q * st), 0, c0, c1⟩ : Ev), z + d)]) (z + d) := .snoc ts z _ (z + d) 0 I7.ti ⟨by simp, hc0, hc01, hc1, by omega, by omega, by simp, by simp, mul_mod hsm, by dsimp only; omega, by dsimp only; omega⟩ (by dsimp only; omega) (by dsimp only; omega)
            have hlen2 : (ts ++ [((⟨1, (s0 + q * st), 0, c0, c1⟩ : Ev), z + d)]).length = ts.length + 1 := by simp
            have IN : SmI g m w bL st z0 z1 (z + d) (i - 1) (ts ++ [((⟨1, (s0 + q * st), 0, c0, c1⟩ : Ev), z + d)]) (.slice A1 (ts.length + 1) C1) (World.setCell w' ⟨bL, 3, none⟩ (.slice A1 (ts.length + 1) C1)) := ⟨by omega, by rw [hlen2]; push_cast; omega, htiny, by have := kLB.set_ 3 (.slice A1 (ts.length + 1) C1); simpa using this, k4B.far (by simp; omega) _, by rw [hlen2]; exact own_set o1 (own_bx o1 kLB (by decide)) _, hFB.set_ (by omega) (Ne.symm hgL) _ _⟩
            go_roundw
            case rel => exact ⟨z + d, i - 1, _, _, rfl, by go_num, IN⟩
            case measure => simp [intOf]; omega
        · go_upto_region 15 with (first | (go_at_call 56; refine (shows_any st n (z + d) _ (by omega) (by omega) (by omega) (by omega) (by omega) (by omega)).mono ?_; rintro er y5 ⟨rfl, rfl⟩) | fail)
          clear l0 l1 l2 l3 lf lz e0 e1 e2 e3 e4 ef ez
          have k8a := k84.set_ 2 (.int .i64 n)
          have I5 := (I4.set8 k84 hw8 hL8 hg8' ho8 2 (.int .i64 n)).set8 k8a hw8 hL8 hg8' ho8 1 (.int .i64 (shows st n (z + d)))
          have k85 : Bx (World.setCell (World.setCell y4 ⟨b8, 2, none⟩ (.int .i64 n)) ⟨b8, 1, none⟩ (.int .i64 (shows st n (z + d)))) b8 28 #[.int .i64 2, .int .i64 (shows st n (z + d)), .int .i64 n, .int .i64 c0, .int .i64 c1] := by have := k8a.set_ 1 (.int .i64 (shows st n (z + d))); simpa using this
          obtain ⟨Z5, hZ5⟩ : ∃ V, (World.setCell (World.setCell y4 ⟨b8, 2, none⟩ (.int .i64 n)) ⟨b8, 1, none⟩ (.int .i64 (shows st n (z + d)))) = V := ⟨_, rfl⟩
          rw [hZ5] at I5 k85 ⊢
          clear hZ5 I4 k84
          have hsb := shows_bd (n := n) (z := z + d) hs1
          have hsm := shows_mod (st := st) (n := n) (z := z + d)
          obtain ⟨s0, hs0⟩ : ∃ s, shows st n (z + d) = s := ⟨_, rfl⟩
          rw [hs0] at hsb hsm k85
          try rw [hs0]
          clear hs0
          go_upto_if 66 with (first | (go_at_call 37; refine (often_any g 1 9 _ I5.ft.2 (by omega) (by omega)).mono ?_; rintro er y6 ⟨⟨tb, rfl⟩, hf6, hg6⟩) | fail)
          have hF6 := (FT.self I5.ft.2).call hg6 hf6
          have I6 := I5.step hF6 hgL hg4
          have k86 := hF6.bx k85 (Ne.symm hg8')
          clear I5 k85 hF6 hf6 hg6
          cases tb
          · obtain ⟨l0, l1, l2, l3, lf, lz⟩ := I6.kL.four
            obtain ⟨e0, e1, e2, e3, e4, ef, ez⟩ := k86.five
            have hoA := I6.oe.alloc (.cells #[.int .i64 2, .int .i64 s0, .int .i64 n, .int .i64 c0, .int .i64 c1] 28)
            have kb := Bx.new y6 28 #[.int .i64 2, .int .i64 s0, .int .i64 n, .int .i64 c0, .int .i64 c1]
            have kLA := I6.kL.alloc (.cells #[.int .i64 2, .int .i64 s0, .int .i64 n, .int .i64 c0, .int .i64 c1] 28)
            have k4A := I6.k4.alloc (.cells #[.int .i64 2, .int .i64 s0, .int .i64 n, .int .i64 c0, .int .i64 c1] 28)
            have hFA := I6.ft.alloc (.cells #[.int .i64 2, .int .i64 s0, .int .i64 n, .int .i64 c0, .int .i64 c1] 28)
            go_wp2_with (first | (at_builtin; refine wpList_append_own _ rfl (.tmp 78) (.tmp 80) 24 rfl w.heap.size 28 i3 _ 5 40 Try.underlying24 hi3 hz3 hs3 iy3 rfl (by decide) (.slice EA ts.length EC) ts.length ((ts.map (·.1)).map Ev.cells).flatten rfl hoA ⟨World.heap y6 |>.size, 0, none⟩ 1 1 [.int .i64 2, .int .i64 s0, .int .i64 n, .int .i64 c0, .int .i64 c1] rfl rfl (bx_news kb) (by simp [Value.oneCell']) (by unfold maxLen; omega) (by omega) (by have := hFA.size; simp at this ⊢; omega) ?_; intro v' w' o1 o2 o3; obtain ⟨A1, C1, rfl⟩ := own_shape o1; have kLB := kLA.grown o2 (own_bx hoA kLA (by decide)); have k4B := k4A.grown o2 (own_bx hoA k4A (by decide)); obtain ⟨r0, r1, r2, r3, rf, rz⟩ := kLB.four) | fail)
            have hFB := hFA.own hoA o2 (Nat.le_refl _) (by decide)
            have hcell : ((ts.map (·.1)).map Ev.cells).flatten ++ [.int .i64 2, .int .i64 s0, .int .i64 n, .int .i64 c0, .int .i64 c1] = (((ts ++ [((⟨2, s0, n, c0, c1⟩ : Ev), z + d)]).map (·.1)).map Ev.cells).flatten := by simp [Ev.cells]
            rw [hcell] at o1
            have htiny : Tiny st z0 z1 (ts ++ [((⟨2, s0, n, c0, c1⟩ : Ev), z + d)]) (z + d) := .snoc ts z _ (z + d) n I6.ti ⟨by simp, hc0, hc01, hc1, by omega, by omega, by simp, by simp, hsm, by dsimp only; omega, by dsimp only; omega⟩ (by dsimp only; omega) (by dsimp only; omega)
            have hlen2 : (ts ++ [((⟨2, s0, n, c0, c1⟩ : Ev), z + d)]).length = ts.length + 1 := by simp
            have IN : SmI g m w bL st z0 z1 (z + d) (i - 1) (ts ++ [((⟨2, s0, n, c0, c1⟩ : Ev), z + d)]) (.slice A1 (ts.length + 1) C1) (World.setCell w' ⟨bL, 3, none⟩ (.slice A1 (ts.length + 1) C1)) := ⟨by omega, by rw [hlen2]; push_cast; omega, htiny, by have := kLB.set_ 3 (.slice A1 (ts.length + 1) C1); simpa using this, k4B.far (by simp; omega) _, by rw [hlen2]; exact own_set o1 (own_bx o1 kLB (by decide)) _, hFB.set_ (by omega) (Ne.symm hgL) _ _⟩
            go_roundw
            case rel => exact ⟨z + d, i - 1, _, _, rfl, by go_num, IN⟩
            case measure => simp [intOf]; omega
          · go_wp2_with fail
            refine AnyG.startC (by kernel_rfl) ?_
            refine AnyG.takeP (i := 0) (v := ?_) rfl (by kernel_rfl) (fun _ _ _ h => h) rfl ?_ ?_
            rotate_left
            · (intro w'; go_simp; try with_reducible rfl)
            try simp only [Act.put, List.getElem_toArray, List.getElem_cons_succ, List.getElem_cons_zero, List.setIfInBounds_toArray, List.set_cons_zero, List.set_cons_succ]
            refine AnyG.takeP (i := 2) (v := ?_) rfl (by kernel_rfl) (fun _ _ _ h => h) rfl ?_ ?_
            rotate_left
            · (intro w'; go_simp; try with_reducible rfl)
            try simp only [Act.put, List.getElem_toArray, List.getElem_cons_succ, List.getElem_cons_zero, List.setIfInBounds_toArray, List.set_cons_zero, List.set_cons_succ]
            refine AnyG.takeP (i := 5) (v := ?_) rfl (by kernel_rfl) (fun _ _ _ h => h) rfl ?_ ?_
            rotate_left
            · (intro w'; go_simp; try with_reducible rfl)
            try simp only [Act.put, List.getElem_toArray, List.getElem_cons_succ, List.getElem_cons_zero, List.setIfInBounds_toArray, List.set_cons_zero, List.set_cons_succ]
            refine AnyG.enter (fun w' : World => FT g y6 w' ∧ Bx w' b8 28 #[.int .i64 2, .int .i64 s0, .int .i64 n, .int .i64 c0, .int .i64 c1] ∧ Bx w' bL 26 #[.int .i64 st, .int .i64 z0, .int .i64 z1, .slice EA ts.length EC]) (fun i => i != 10) ?_
            have hS : (fun w' : World => FT g y6 w' ∧ Bx w' b8 28 #[.int .i64 2, .int .i64 s0, .int .i64 n, .int .i64 c0, .int .i64 c1] ∧ Bx w' bL 26 #[.int .i64 st, .int .i64 z0, .int .i64 z1, .slice EA ts.length EC]) (World.drew _) := ⟨⟨grown_drew _ _, I6.ft.2.drew⟩, k86.drew, I6.kL.drew⟩
            refine AnyG.takeC (i := 1) (v := ?_) rfl (by kernel_rfl) (fun _ _ _ h => h) rfl ?_ hS ?_
            rotate_left
            · (intro w' hSw; (try dsimp only at hSw); obtain ⟨e0, e1, e2, e3, e4, ef, ez⟩ := hSw.2.1.five; go_simp; try with_reducible rfl)
            try simp only [Act.put, List.getElem_toArray, List.getElem_cons_succ, List.getElem_cons_zero, List.setIfInBounds_toArray, List.set_cons_zero, List.set_cons_succ]
            refine AnyG.takeC (i := 6) (v := ?_) rfl (by kernel_rfl) (fun _ _ _ h => h) rfl ?_ hS ?_
            rotate_left
            · (intro w' hSw; (try dsimp only at hSw); obtain ⟨l0, l1, l2, l3, lf, lz⟩ := hSw.2.2.four; go_simp; try with_reducible rfl)
            try simp only [Act.put, List.getElem_toArray, List.getElem_cons_succ, List.getElem_cons_zero, List.setIfInBounds_toArray, List.set_cons_zero, List.set_cons_succ]
            refine AnyG.one (i := 3) (by kernel_rfl) rfl rfl ?_
            have hlt3 := hS.1.2.lt
            go_simp
            refine Onward.on ⟨hS.1.alloc _, hS.2.1.alloc _, hS.2.2.alloc _⟩ (fun hS2 => ?_)
            clear hS
            have hS := hS2
            clear hS2
            try simp only [Act.put, List.getElem_toArray, List.getElem_cons_succ, List.getElem_cons_zero, List.setIfInBounds_toArray, List.set_cons_zero, List.set_cons_succ]
            refine AnyG.one (i := 4) (by kernel_rfl) rfl rfl ?_
            go_simp
            refine (either_any g _ 3 _ (fun r => r = -1 ∨ r = 1 ∨ r = 2) _ hS.1.2 (Bx.new _ _ _) (Nat.ne_of_gt hlt3) (by omega) (by omega) (bx3 _ (by simp) (by simp) (by simp))).mono ?_
            rintro er y7 ⟨⟨q, rfl, hq⟩, hf7, hg7⟩
            have hqs : -(st) ≤ q * st ∧ q * st ≤ 2 * st := by rcases hq with r | r | r <;> rw [r] <;> omega
            have hwq : IntKind.i64.wrap (q * st) = q * st := IntWalk.i64_in _ (by omega)
            have hwq2 : IntKind.i64.wrap (s0 + q * st) = s0 + q * st := IntWalk.i64_in _ (by omega)
            refine Onward.on ⟨hS.1.call hg7 hf7, hS.2.1.grown hg7 (by simpa using Ne.symm hg8'), hS.2.2.grown hg7 (by simpa using hgL)⟩ (fun hS2 => ?_)
            clear hS
            have hS := hS2
            clear hS2
            try simp only [Act.put, List.getElem_toArray, List.getElem_cons_succ, List.getElem_cons_zero, List.setIfInBounds_toArray, List.set_cons_zero, List.set_cons_succ]
            refine AnyG.takeC (i := 7) (v := ?_) rfl (by kernel_rfl) (fun _ _ _ h => h) rfl ?_ hS ?_
            rotate_left
            · (intro w' hSw; (try dsimp only at hSw); go_simp; try with_reducible rfl)
            try simp only [Act.put, List.getElem_toArray, List.getElem_cons_succ, List.getElem_cons_zero, List.setIfInBounds_toArray, List.set_cons_zero, List.set_cons_succ]
            refine AnyG.takeC (i := 8) (v := ?_) rfl (by kernel_rfl) (fun _ _ _ h => h) rfl ?_ hS ?_
            rotate_left
            · (intro w' hSw; (try dsimp only at hSw); go_simp; try with_reducible rfl)
            try simp only [Act.put, List.getElem_toArray, List.getElem_cons_succ, List.getElem_cons_zero, List.setIfInBounds_toArray, List.set_cons_zero, List.set_cons_succ]
            refine AnyG.takeC (i := 9) (v := ?_) rfl (by kernel_rfl) (fun _ _ _ h => h) rfl ?_ hS ?_
            rotate_left
            · (intro w' hSw; (try dsimp only at hSw); go_simp; try with_reducible rfl)
            try simp only [Act.put, List.getElem_toArray, List.getElem_cons_succ, List.getElem_cons_zero, List.setIfInBounds_toArray, List.set_cons_zero, List.set_cons_succ]
            refine AnyG.one (i := 10) (by kernel_rfl) rfl rfl ?_
            have hF7 := hS.1
            have k87 := hS.2.1
            obtain ⟨e0, e1, e2, e3, e4, ef, ez⟩ := k87.five
            go_simp
            refine Onward.last rfl ?_
            try simp only [Act.put, List.getElem_toArray, List.getElem_cons_succ, List.getElem_cons_zero, List.setIfInBounds_toArray, List.set_cons_zero, List.set_cons_succ]
            refine AnyG.done (by kernel_rfl) ?_ _
            go_simp
            have I7 := (I6.step hF7 hgL hg4).set8 k87 hw8 hL8 hg8' ho8 1 (.int .i64 (s0 + q * st))
            have k88 : Bx (World.setCell y7 ⟨b8, 1, none⟩ (.int .i64 (s0 + q * st))) b8 28 #[.int .i64 2, .int .i64 (s0 + q * st), .int .i64 n, .int .i64 c0, .int .i64 c1] := by have := k87.set_ 1 (.int .i64 (s0 + q * st)); simpa using this
            obtain ⟨Z8, hZ8⟩ : ∃ V, (World.setCell y7 ⟨b8, 1, none⟩ (.int .i64 (s0 + q * st))) = V := ⟨_, rfl⟩
            rw [hZ8] at I7 k88 ⊢
            clear hZ8 I6 k86 k87 hF7 e0 e1 e2 e3 e4 ef ez hS
            obtain ⟨l0, l1, l2, l3, lf, lz⟩ := I7.kL.four
            obtain ⟨e0, e1, e2, e3, e4, ef, ez⟩ := k88.five
            have hoA := I7.oe.alloc (.cells #[.int .i64 2, .int .i64 (s0 + q * st), .int .i64 n, .int .i64 c0, .int .i64 c1] 28)
            have kb := Bx.new Z8 28 #[.int .i64 2, .int .i64 (s0 + q * st), .int .i64 n, .int .i64 c0, .int .i64 c1]
            have kLA := I7.kL.alloc (.cells #[.int .i64 2, .int .i64 (s0 + q * st), .int .i64 n, .int .i64 c0, .int .i64 c1] 28)
            have k4A := I7.k4.alloc (.cells #[.int .i64 2, .int .i64 (s0 + q * st), .int .i64 n, .int .i64 c0, .int .i64 c1] 28)
            have hFA := I7.ft.alloc (.cells #[.int .i64 2, .int .i64 (s0 + q * st), .int .i64 n, .int .i64 c0, .int .i64 c1] 28)
            go_wp2_with (first | (at_builtin; refine wpList_append_own _ rfl (.tmp 78) (.tmp 80) 24 rfl w.heap.size 28 i3 _ 5 40 Try.underlying24 hi3 hz3 hs3 iy3 rfl (by decide) (.slice EA ts.length EC) ts.length ((ts.map (·.1)).map Ev.cells).flatten rfl hoA ⟨World.heap Z8 |>.size, 0, none⟩ 1 1 [.int .i64 2, .int .i64 (s0 + q * st), .int .i64 n, .int .i64 c0, .int .i64 c1] rfl rfl (bx_news kb) (by simp [Value.oneCell']) (by unfold maxLen; omega) (by omega) (by have := hFA.size; simp at this ⊢; omega) ?_; intro v' w' o1 o2 o3; obtain ⟨A1, C1, rfl⟩ := own_shape o1; have kLB := kLA.grown o2 (own_bx hoA kLA (by decide)); have k4B := k4A.grown o2 (own_bx hoA k4A (by decide)); obtain ⟨r0, r1, r2, r3, rf, rz⟩ := kLB.four) | fail)
            have hFB := hFA.own hoA o2 (Nat.le_refl _) (by decide)
            have hcell : ((ts.map (·.1)).map Ev.cells).flatten ++ [.int .i64 2, .int .i64 (s0 + q * st), .int .i64 n, .int .i64 c0, .int .i64 c1] = (((ts ++ [((⟨2, (s0 + q * st), n, c0, c1⟩ : Ev), z + d)]).map (·.1)).map Ev.cells).flatten := by simp [Ev.cells]
            rw [hcell] at o1
            have htiny : Tiny st z0 z1 (ts ++ [((⟨2, (s0 + q * st), n, c0, c1⟩ : Ev), z + d)]) (z + d) := .snoc ts z _ (z + d) n I7.ti ⟨by simp, hc0, hc01, hc1, by omega, by omega, by simp, by simp, mul_mod hsm, by dsimp only; omega, by dsimp only; omega⟩ (by dsimp only; omega) (by dsimp only; omega)
            have hlen2 : (ts ++ [((⟨2, (s0 + q * st), n, c0, c1⟩ : Ev), z + d)]).length = ts.length + 1 := by simp
            have IN : SmI g m w bL st z0 z1 (z + d) (i - 1) (ts ++ [((⟨2, (s0 + q * st), n, c0, c1⟩ : Ev), z + d)]) (.slice A1 (ts.length + 1) C1) (World.setCell w' ⟨bL, 3, none⟩ (.slice A1 (ts.length + 1) C1)) := ⟨by omega, by rw [hlen2]; push_cast; omega, htiny, by have := kLB.set_ 3 (.slice A1 (ts.length + 1) C1); simpa using this, k4B.far (by simp; omega) _, by rw [hlen2]; exact own_set o1 (own_bx o1 kLB (by decide)) _, hFB.set_ (by omega) (Ne.symm hgL) _ _⟩
            go_roundw
            case rel => exact ⟨z + d, i - 1, _, _, rfl, by go_num, IN⟩
            case measure => simp [intOf]; omega
        · go_upto_region 15 with (first | (go_at_call 56; refine (shows_any st n (z + d) _ (by omega) (by omega) (by omega) (by omega) (by omega) (by omega)).mono ?_; rintro er y5 ⟨rfl, rfl⟩) | fail)
          clear l0 l1 l2 l3 lf lz e0 e1 e2 e3 e4 ef ez
          have I5 := I4.set8 k84 hw8 hL8 hg8' ho8 1 (.int .i64 (shows st n (z + d)))
          have k85 : Bx (World.setCell y4 ⟨b8, 1, none⟩ (.int .i64 (shows st n (z + d)))) b8 28 #[.int .i64 3, .int .i64 (shows st n (z + d)), .int .i64 0, .int .i64 c0, .int .i64 c1] := by have := k84.set_ 1 (.int .i64 (shows st n (z + d))); simpa using this
          obtain ⟨Z5, hZ5⟩ : ∃ V, (World.setCell y4 ⟨b8, 1, none⟩ (.int .i64 (shows st n (z + d)))) = V := ⟨_, rfl⟩
          rw [hZ5] at I5 k85 ⊢
          clear hZ5 I4 k84
          have hsb := shows_bd (n := n) (z := z + d) hs1
          have hsm := shows_mod (st := st) (n := n) (z := z + d)
          obtain ⟨s0, hs0⟩ : ∃ s, shows st n (z + d) = s := ⟨_, rfl⟩
          rw [hs0] at hsb hsm k85
          try rw [hs0]
          clear hs0
          go_upto_if 66 with (first | (go_at_call 37; refine (often_any g 1 9 _ I5.ft.2 (by omega) (by omega)).mono ?_; rintro er y6 ⟨⟨tb, rfl⟩, hf6, hg6⟩) | fail)
          have hF6 := (FT.self I5.ft.2).call hg6 hf6
          have I6 := I5.step hF6 hgL hg4
          have k86 := hF6.bx k85 (Ne.symm hg8')
          clear I5 k85 hF6 hf6 hg6
          cases tb
          · obtain ⟨l0, l1, l2, l3, lf, lz⟩ := I6.kL.four
            obtain ⟨e0, e1, e2, e3, e4, ef, ez⟩ := k86.five
            have hoA := I6.oe.alloc (.cells #[.int .i64 3, .int .i64 s0, .int .i64 0, .int .i64 c0, .int .i64 c1] 28)
            have kb := Bx.new y6 28 #[.int .i64 3, .int .i64 s0, .int .i64 0, .int .i64 c0, .int .i64 c1]
            have kLA := I6.kL.alloc (.cells #[.int .i64 3, .int .i64 s0, .int .i64 0, .int .i64 c0, .int .i64 c1] 28)
            have k4A := I6.k4.alloc (.cells #[.int .i64 3, .int .i64 s0, .int .i64 0, .int .i64 c0, .int .i64 c1] 28)
            have hFA := I6.ft.alloc (.cells #[.int .i64 3, .int .i64 s0, .int .i64 0, .int .i64 c0, .int .i64 c1] 28)
            go_wp2_with (first | (at_builtin; refine wpList_append_own _ rfl (.tmp 78) (.tmp 80) 24 rfl w.heap.size 28 i3 _ 5 40 Try.underlying24 hi3 hz3 hs3 iy3 rfl (by decide) (.slice EA ts.length EC) ts.length ((ts.map (·.1)).map Ev.cells).flatten rfl hoA ⟨World.heap y6 |>.size, 0, none⟩ 1 1 [.int .i64 3, .int .i64 s0, .int .i64 0, .int .i64 c0, .int .i64 c1] rfl rfl (bx_news kb) (by simp [Value.oneCell']) (by unfold maxLen; omega) (by omega) (by have := hFA.size; simp at this ⊢; omega) ?_; intro v' w' o1 o2 o3; obtain ⟨A1, C1, rfl⟩ := own_shape o1; have kLB := kLA.grown o2 (own_bx hoA kLA (by decide)); have k4B := k4A.grown o2 (own_bx hoA k4A (by decide)); obtain ⟨r0, r1, r2, r3, rf, rz⟩ := kLB.four) | fail)
            have hFB := hFA.own hoA o2 (Nat.le_refl _) (by decide)
            have hcell : ((ts.map (·.1)).map Ev.cells).flatten ++ [.int .i64 3, .int .i64 s0, .int .i64 0, .int .i64 c0, .int .i64 c1] = (((ts ++ [((⟨3, s0, 0, c0, c1⟩ : Ev), z + d)]).map (·.1)).map Ev.cells).flatten := by simp [Ev.cells]
            rw [hcell] at o1
            have htiny : Tiny st z0 z1 (ts ++ [((⟨3, s0, 0, c0, c1⟩ : Ev), z + d)]) (z + d) := .snoc ts z _ (z + d) n I6.ti ⟨by simp, hc0, hc01, hc1, by omega, by omega, by simp, by simp, hsm, by dsimp only; omega, by dsimp only; omega⟩ (by dsimp only; omega) (by dsimp only; omega)
            have hlen2 : (ts ++ [((⟨3, s0, 0, c0, c1⟩ : Ev), z + d)]).length = ts.length + 1 := by simp
            have IN : SmI g m w bL st z0 z1 (z + d) (i - 1) (ts ++ [((⟨3, s0, 0, c0, c1⟩ : Ev), z + d)]) (.slice A1 (ts.length + 1) C1) (World.setCell w' ⟨bL, 3, none⟩ (.slice A1 (ts.length + 1) C1)) := ⟨by omega, by rw [hlen2]; push_cast; omega, htiny, by have := kLB.set_ 3 (.slice A1 (ts.length + 1) C1); simpa using this, k4B.far (by simp; omega) _, by rw [hlen2]; exact own_set o1 (own_bx o1 kLB (by decide)) _, hFB.set_ (by omega) (Ne.symm hgL) _ _⟩
            go_roundw
            case rel => exact ⟨z + d, i - 1, _, _, rfl, by go_num, IN⟩
            case measure => simp [intOf]; omega
          · go_wp2_with fail
            refine AnyG.startC (by kernel_rfl) ?_
            refine AnyG.takeP (i := 0) (v := ?_) rfl (by kernel_rfl) (fun _ _ _ h => h) rfl ?_ ?_
            rotate_left
            · (intro w'; go_simp; try with_reducible rfl)
            try simp only [Act.put, List.getElem_toArray, List.getElem_cons_succ, List.getElem_cons_zero, List.setIfInBounds_toArray, List.set_cons_zero, List.set_cons_succ]
            refine AnyG.takeP (i := 2) (v := ?_) rfl (by kernel_rfl) (fun _ _ _ h => h) rfl ?_ ?_
            rotate_left
            · (intro w'; go_simp; try with_reducible rfl)
            try simp only [Act.put, List.getElem_toArray, List.getElem_cons_succ, List.getElem_cons_zero, List.setIfInBounds_toArray, List.set_cons_zero, List.set_cons_succ]
            refine AnyG.takeP (i := 5) (v := ?_) rfl (by kernel_rfl) (fun _ _ _ h => h) rfl ?_ ?_
            rotate_left
            · (intro w'; go_simp; try with_reducible rfl)
            try simp only [Act.put, List.getElem_toArray, List.getElem_cons_succ, List.getElem_cons_zero, List.setIfInBounds_toArray, List.set_cons_zero, List.set_cons_succ]
            refine AnyG.enter (fun w' : World => FT g y6 w' ∧ Bx w' b8 28 #[.int .i64 3, .int .i64 s0, .int .i64 0, .int .i64 c0, .int .i64 c1] ∧ Bx w' bL 26 #[.int .i64 st, .int .i64 z0, .int .i64 z1, .slice EA ts.length EC]) (fun i => i != 10) ?_
            have hS : (fun w' : World => FT g y6 w' ∧ Bx w' b8 28 #[.int .i64 3, .int .i64 s0, .int .i64 0, .int .i64 c0, .int .i64 c1] ∧ Bx w' bL 26 #[.int .i64 st, .int .i64 z0, .int .i64 z1, .slice EA ts.length EC]) (World.drew _) := ⟨⟨grown_drew _ _, I6.ft.2.drew⟩, k86.drew, I6.kL.drew⟩
            refine AnyG.takeC (i := 1) (v := ?_) rfl (by kernel_rfl) (fun _ _ _ h => h) rfl ?_ hS ?_
            rotate_left
            · (intro w' hSw; (try dsimp only at hSw); obtain ⟨e0, e1, e2, e3, e4, ef, ez⟩ := hSw.2.1.five; go_simp; try with_reducible rfl)
            try simp only [Act.put, List.getElem_toArray, List.getElem_cons_succ, List.getElem_cons_zero, List.setIfInBounds_toArray, List.set_cons_zero, List.set_cons_succ]
            refine AnyG.takeC (i := 6) (v := ?_) rfl (by kernel_rfl) (fun _ _ _ h => h) rfl ?_ hS ?_
            rotate_left
            · (intro w' hSw; (try dsimp only at hSw); obtain ⟨l0, l1, l2, l3, lf, lz⟩ := hSw.2.2.four; go_simp; try with_reducible rfl)
            try simp only [Act.put, List.getElem_toArray, List.getElem_cons_succ, List.getElem_cons_zero, List.setIfInBounds_toArray, List.set_cons_zero, List.set_cons_succ]
            refine AnyG.one (i := 3) (by kernel_rfl) rfl rfl ?_
            have hlt3 := hS.1.2.lt
            go_simp
            refine Onward.on ⟨hS.1.alloc _, hS.2.1.alloc _, hS.2.2.alloc _⟩ (fun hS2 => ?_)
            clear hS
            have hS := hS2
            clear hS2
            try simp only [Act.put, List.getElem_toArray, List.getElem_cons_succ, List.getElem_cons_zero, List.setIfInBounds_toArray, List.set_cons_zero, List.set_cons_succ]
            refine AnyG.one (i := 4) (by kernel_rfl) rfl rfl ?_
            go_simp
            refine (either_any g _ 3 _ (fun r => r = -1 ∨ r = 1 ∨ r = 2) _ hS.1.2 (Bx.new _ _ _) (Nat.ne_of_gt hlt3) (by omega) (by omega) (bx3 _ (by simp) (by simp) (by simp))).mono ?_
            rintro er y7 ⟨⟨q, rfl, hq⟩, hf7, hg7⟩
            have hqs : -(st) ≤ q * st ∧ q * st ≤ 2 * st := by rcases hq with r | r | r <;> rw [r] <;> omega
            have hwq : IntKind.i64.wrap (q * st) = q * st := IntWalk.i64_in _ (by omega)
            have hwq2 : IntKind.i64.wrap (s0 + q * st) = s0 + q * st := IntWalk.i64_in _ (by omega)
            refine Onward.on ⟨hS.1.call hg7 hf7, hS.2.1.grown hg7 (by simpa using Ne.symm hg8'), hS.2.2.grown hg7 (by simpa using hgL)⟩ (fun hS2 => ?_)
            clear hS
            have hS := hS2
            clear hS2
            try simp only [Act.put, List.getElem_toArray, List.getElem_cons_succ, List.getElem_cons_zero, List.setIfInBounds_toArray, List.set_cons_zero, List.set_cons_succ]
            refine AnyG.takeC (i := 7) (v := ?_) rfl (by kernel_rfl) (fun _ _ _ h => h) rfl ?_ hS ?_
            rotate_left
            · (intro w' hSw; (try dsimp only at hSw); go_simp; try with_reducible rfl)
            try simp only [Act.put, List.getElem_toArray, List.getElem_cons_succ, List.getElem_cons_zero, List.setIfInBounds_toArray, List.set_cons_zero, List.set_cons_succ]
            refine AnyG.takeC (i := 8) (v := ?_) rfl (by kernel_rfl) (fun _ _ _ h => h) rfl ?_ hS ?_
            rotate_left
            · (intro w' hSw; (try dsimp only at hSw); go_simp; try with_reducible rfl)
            try simp only [Act.put, List.getElem_toArray, List.getElem_cons_succ, List.getElem_cons_zero, List.setIfInBounds_toArray, List.set_cons_zero, List.set_cons_succ]
            refine AnyG.takeC (i := 9) (v := ?_) rfl (by kernel_rfl) (fun _ _ _ h => h) rfl ?_ hS ?_
            rotate_left
            · (intro w' hSw; (try dsimp only at hSw); go_simp; try with_reducible rfl)
            try simp only [Act.put, List.getElem_toArray, List.getElem_cons_succ, List.getElem_cons_zero, List.setIfInBounds_toArray, List.set_cons_zero, List.set_cons_succ]
            refine AnyG.one (i := 10) (by kernel_rfl) rfl rfl ?_
            have hF7 := hS.1
            have k87 := hS.2.1
            obtain ⟨e0, e1, e2, e3, e4, ef, ez⟩ := k87.five
            go_simp
            refine Onward.last rfl ?_
            try simp only [Act.put, List.getElem_toArray, List.getElem_cons_succ, List.getElem_cons_zero, List.setIfInBounds_toArray, List.set_cons_zero, List.set_cons_succ]
            refine AnyG.done (by kernel_rfl) ?_ _
            go_simp
            have I7 := (I6.step hF7 hgL hg4).set8 k87 hw8 hL8 hg8' ho8 1 (.int .i64 (s0 + q * st))
            have k88 : Bx (World.setCell y7 ⟨b8, 1, none⟩ (.int .i64 (s0 + q * st))) b8 28 #[.int .i64 3, .int .i64 (s0 + q * st), .int .i64 0, .int .i64 c0, .int .i64 c1] := by have := k87.set_ 1 (.int .i64 (s0 + q * st)); simpa using this
            obtain ⟨Z8, hZ8⟩ : ∃ V, (World.setCell y7 ⟨b8, 1, none⟩ (.int .i64 (s0 + q * st))) = V := ⟨_, rfl⟩
            rw [hZ8] at I7 k88 ⊢
            clear hZ8 I6 k86 k87 hF7 e0 e1 e2 e3 e4 ef ez hS
            obtain ⟨l0, l1, l2, l3, lf, lz⟩ := I7.kL.four
            obtain ⟨e0, e1, e2, e3, e4, ef, ez⟩ := k88.five
            have hoA := I7.oe.alloc (.cells #[.int .i64 3, .int .i64 (s0 + q * st), .int .i64 0, .int .i64 c0, .int .i64 c1] 28)
            have kb := Bx.new Z8 28 #[.int .i64 3, .int .i64 (s0 + q * st), .int .i64 0, .int .i64 c0, .int .i64 c1]
            have kLA := I7.kL.alloc (.cells #[.int .i64 3, .int .i64 (s0 + q * st), .int .i64 0, .int .i64 c0, .int .i64 c1] 28)
            have k4A := I7.k4.alloc (.cells #[.int .i64 3, .int .i64 (s0 + q * st), .int .i64 0, .int .i64 c0, .int .i64 c1] 28)
            have hFA := I7.ft.alloc (.cells #[.int .i64 3, .int .i64 (s0 + q * st), .int .i64 0, .int .i64 c0, .int .i64 c1] 28)
            go_wp2_with (first | (at_builtin; refine wpList_append_own _ rfl (.tmp 78) (.tmp 80) 24 rfl w.heap.size 28 i3 _ 5 40 Try.underlying24 hi3 hz3 hs3 iy3 rfl (by decide) (.slice EA ts.length EC) ts.length ((ts.map (·.1)).map Ev.cells).flatten rfl hoA ⟨World.heap Z8 |>.size, 0, none⟩ 1 1 [.int .i64 3, .int .i64 (s0 + q * st), .int .i64 0, .int .i64 c0, .int .i64 c1] rfl rfl (bx_news kb) (by simp [Value.oneCell']) (by unfold maxLen; omega) (by omega) (by have := hFA.size; simp at this ⊢; omega) ?_; intro v' w' o1 o2 o3; obtain ⟨A1, C1, rfl⟩ := own_shape o1; have kLB := kLA.grown o2 (own_bx hoA kLA (by decide)); have k4B := k4A.grown o2 (own_bx hoA k4A (by decide)); obtain ⟨r0, r1, r2, r3, rf, rz⟩ := kLB.four) | fail)
            have hFB := hFA.own hoA o2 (Nat.le_refl _) (by decide)
            have hcell : ((ts.map (·.1)).map Ev.cells).flatten ++ [.int .i64 3, .int .i64 (s0 + q * st), .int .i64 0, .int .i64 c0, .int .i64 c1] = (((ts ++ [((⟨3, (s0 + q * st), 0, c0, c1⟩ : Ev), z + d)]).map (·.1)).map Ev.cells).flatten := by simp [Ev.cells]
            rw [hcell] at o1
            have htiny : Tiny st z0 z1 (ts ++ [((⟨3, (s0 + q * st), 0, c0, c1⟩ : Ev), z + d)]) (z + d) := .snoc ts z _ (z + d) n I7.ti ⟨by simp, hc0, hc01, hc1, by omega, by omega, by simp, by simp, mul_mod hsm, by dsimp only; omega, by dsimp only; omega⟩ (by dsimp only; omega) (by dsimp only; omega)
            have hlen2 : (ts ++ [((⟨3, (s0 + q * st), 0, c0, c1⟩ : Ev), z + d)]).length = ts.length + 1 := by simp
            have IN : SmI g m w bL st z0 z1 (z + d) (i - 1) (ts ++ [((⟨3, (s0 + q * st), 0, c0, c1⟩ : Ev), z + d)]) (.slice A1 (ts.length + 1) C1) (World.setCell w' ⟨bL, 3, none⟩ (.slice A1 (ts.length + 1) C1)) := ⟨by omega, by rw [hlen2]; push_cast; omega, htiny, by have := kLB.set_ 3 (.slice A1 (ts.length + 1) C1); simpa using this, k4B.far (by simp; omega) _, by rw [hlen2]; exact own_set o1 (own_bx o1 kLB (by decide)) _, hFB.set_ (by omega) (Ne.symm hgL) _ _⟩
            go_roundw
            case rel => exact ⟨z + d, i - 1, _, _, rfl, by go_num, IN⟩
            case measure => simp [intOf]; omega
      · obtain rfl : i = 0 := by omega
        obtain ⟨EA, EC, rfl⟩ := own_shape I.oe
        obtain ⟨l0, l1, l2, l3, lf, lz⟩ := I.kL.four
        obtain ⟨r0, r1, r2, r3, rf, rz⟩ := I.k4.four
        have ho4 := own_bx I.oe I.k4 (by decide)
        go_wp2_with fail
        clear l0 l1 l2 l3 lf lz r0 r1 r2 r3 rf rz
        have kF : Bx (World.setCell (World.setCell (World.setCell (World.setCell wr ⟨World.heap w |>.size, 0, none⟩ (.int .i64 st)) ⟨World.heap w |>.size, 1, none⟩ (.int .i64 z0)) ⟨World.heap w |>.size, 2, none⟩ (.int .i64 z1)) ⟨World.heap w |>.size, 3, none⟩ (.slice EA ts.length EC)) w.heap.size 26 #[.int .i64 st, .int .i64 z0, .int .i64 z1, .slice EA ts.length EC] := by have := ((((I.k4.set_ 0 (.int .i64 st)).set_ 1 (.int .i64 z0)).set_ 2 (.int .i64 z1)).set_ 3 (.slice EA ts.length EC)); simpa using this
        have oF : World.ownsRow (World.setCell (World.setCell (World.setCell (World.setCell wr ⟨World.heap w |>.size, 0, none⟩ (.int .i64 st)) ⟨World.heap w |>.size, 1, none⟩ (.int .i64 z0)) ⟨World.heap w |>.size, 2, none⟩ (.int .i64 z1)) ⟨World.heap w |>.size, 3, none⟩ (.slice EA ts.length EC)) w.heap.size 28 5 (.slice EA ts.length EC) ts.length ((ts.map (·.1)).map Ev.cells).flatten := (own_set (own_set (own_set (own_set I.oe ho4 (o := 0) (.int .i64 st)) ho4 (o := 1) (.int .i64 z0)) ho4 (o := 2) (.int .i64 z1)) ho4 (o := 3) (.slice EA ts.length EC))
        have fF : FT g w (World.setCell (World.setCell (World.setCell (World.setCell wr ⟨World.heap w |>.size, 0, none⟩ (.int .i64 st)) ⟨World.heap w |>.size, 1, none⟩ (.int .i64 z0)) ⟨World.heap w |>.size, 2, none⟩ (.int .i64 z1)) ⟨World.heap w |>.size, 3, none⟩ (.slice EA ts.length EC)) := (FT.set_ (FT.set_ (FT.set_ (FT.set_ I.ft (Nat.le_refl _) (Ne.symm hg4) 0 (.int .i64 st)) (Nat.le_refl _) (Ne.symm hg4) 1 (.int .i64 z0)) (Nat.le_refl _) (Ne.symm hg4) 2 (.int .i64 z1)) (Nat.le_refl _) (Ne.symm hg4) 3 (.slice EA ts.length EC))
        obtain ⟨Z, hZ⟩ : ∃ V, (World.setCell (World.setCell (World.setCell (World.setCell wr ⟨World.heap w |>.size, 0, none⟩ (.int .i64 st)) ⟨World.heap w |>.size, 1, none⟩ (.int .i64 z0)) ⟨World.heap w |>.size, 2, none⟩ (.int .i64 z1)) ⟨World.heap w |>.size, 3, none⟩ (.slice EA ts.length EC)) = V := ⟨_, rfl⟩
        rw [hZ] at kF oF fF ⊢
        clear hZ
        obtain ⟨r0, r1, r2, r3, rf, rz⟩ := kF.four
        refine bodyPost_ret (v := .agg #[.int .i64 st, .int .i64 z0, .int .i64 z1, .slice EA ts.length EC]) (by simp [results, Try.results44, go_sem, r0, r1, r2, r3]) rfl ⟨st, z0, z1, z, ts, _, rfl, ⟨hs1, by omega, hz0, hz2, hz4, hz3'⟩, I.ti, by omega, by simpa using oF, fF⟩
end Go.Proofs.Ytgbogdckmfencaa
