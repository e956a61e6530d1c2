/- Mathematics of layer 7: voyages, stowages, when a barge passes. -/
import Derived.Test.YtdlohfglmagneaaDoorBsM
set_option linter.unusedSimpArgs false
set_option linter.unusedVariables false
namespace Go.Proofs.YtdlohfglmagneaaDoor
/-! Mathematics of layer 7: when a barge passes its sills. -/
/-- The first minute from c on, up to the last one of the clock, at which something is so. -/
def ovr (ok : Int → Bool) (c : Int) : Option Int := ((List.range (2881 - c).toNat).map fun (n : Nat) => c + (n : Int)).find? ok
theorem ovr_some {ok : Int → Bool} {c m : Int} : ovr ok c = some m ↔ c ≤ m ∧ m ≤ 2880 ∧ ok m = true ∧ ∀ k, c ≤ k → k < m → ok k = false := by
  unfold ovr
  constructor
  · intro h
    rw [List.find?_eq_some_iff_getElem] at h
    obtain ⟨h1, i, hi, h2, h3⟩ := h
    simp only [List.length_map, List.length_range] at hi
    simp only [List.getElem_map, List.getElem_range] at h2
    refine ⟨by omega, by omega, h1, fun k hk1 hk2 => ?_⟩
    have := h3 (k - c).toNat (by omega)
    simp only [List.getElem_map, List.getElem_range] at this
    rw [show c + ((k - c).toNat : Int) = k by omega] at this
    simpa using this
  · rintro ⟨h1, h2, h3, h4⟩
    rw [List.find?_eq_some_iff_getElem]
    refine ⟨h3, (m - c).toNat, by simp; omega, by simp; omega, fun j hj => ?_⟩
    simp only [List.getElem_map, List.getElem_range]
    rw [h4 _ (by omega) (by omega)]
    rfl
theorem ovr_none {ok : Int → Bool} {c : Int} : ovr ok c = none ↔ ∀ k, c ≤ k → k ≤ 2880 → ok k = false := by
  unfold ovr
  rw [List.find?_eq_none]
  constructor
  · intro h k h1 h2
    have := h k (List.mem_map.2 ⟨(k - c).toNat, by rw [List.mem_range]; omega, by omega⟩)
    simpa using this
  · intro h x hx
    obtain ⟨n, hn, rfl⟩ := List.mem_map.1 hx
    rw [List.mem_range] at hn
    rw [h _ (by omega) (by omega)]
    simp
theorem ovr_late {ok : Int → Bool} {c : Int} (h : 2880 < c) : ovr ok c = none := ovr_none.2 fun k h1 h2 => by omega
/-- What is so at more minutes, and comes no later, is passed no later. -/
theorem ovr_mono {ok ok' : Int → Bool} {c c' m : Int} (hok : ∀ k, ok k = true → ok' k = true) (hc : c' ≤ c) (h : ovr ok c = some m) : ∃ m', ovr ok' c' = some m' ∧ m' ≤ m := by
  obtain ⟨h1, h2, h3, _⟩ := ovr_some.1 h
  cases h' : ovr ok' c' with
  | none =>
    have := ovr_none.1 h' m (by omega) h2
    rw [hok m h3] at this
    cases this
  | some m' =>
    refine ⟨m', rfl, ?_⟩
    obtain ⟨_, _, _, g4⟩ := ovr_some.1 h'
    rcases Int.lt_or_le m m' with hl | hl
    · have := g4 m (by omega) hl
      rw [hok m h3] at this
      cases this
    · exact hl
/-- The minutes in which sills are passed, up to the one that stops: ways, and when the water is deep enough. -/
def sal : List (Int × (Int → Bool)) → Int → List Int
  | [], _ => []
  | (t, ok) :: r, a => match ovr ok (a + t) with
    | none => []
    | some m => m :: sal r m
/-- Sills that are passed no later. -/
inductive Sooner : List (Int × (Int → Bool)) → List (Int × (Int → Bool)) → Prop
  | nil : Sooner [] []
  | cons {t t' : Int} {ok ok' : Int → Bool} {r r' : List (Int × (Int → Bool))} (ht : t ≤ t') (hok : ∀ k, ok' k = true → ok k = true) (h : Sooner r r') : Sooner ((t, ok) :: r) ((t', ok') :: r')
theorem Sooner.len {x y : List (Int × (Int → Bool))} (h : Sooner x y) : x.length = y.length := by
  induction h with
  | nil => rfl
  | cons _ _ _ ih => simp [ih]
theorem sal_len : ∀ (x : List (Int × (Int → Bool))) (a : Int), (sal x a).length ≤ x.length
  | [], _ => by simp [sal]
  | (t, ok) :: r, a => by
    unfold sal
    split
    · simp
    · have := sal_len r; simp; exact this _
/-- Sooner sills, and an earlier start: no fewer are passed, and each no later. -/
theorem sal_mono {x y : List (Int × (Int → Bool))} (h : Sooner x y) : ∀ {a b : Int}, a ≤ b → (sal y b).length ≤ (sal x a).length ∧ ∀ (i : Nat) (m : Int), (sal y b)[i]? = some m → ∃ m', (sal x a)[i]? = some m' ∧ m' ≤ m := by
  induction h with
  | nil => intro a b _; simp [sal]
  | @cons t t' ok ok' r r' ht hok h ih =>
    intro a b hab
    unfold sal
    cases hy : ovr ok' (b + t') with
    | none => simp
    | some m =>
      obtain ⟨m', hx, hm⟩ := ovr_mono (c' := a + t) hok (by omega) hy
      rw [hx]
      obtain ⟨h1, h2⟩ := ih hm
      refine ⟨by simp; exact h1, fun i n hi => ?_⟩
      cases i with
      | zero => simp at hi; subst hi; exact ⟨m', rfl, hm⟩
      | succ i => simpa using h2 i n (by simpa using hi)
/-- How deep the water is in a minute: levels with the minute from which each is so, ascending, the first one from 0 on. -/
def dpt (lv : List (Int × Int)) (m : Int) : Int := lv.foldl (fun d x => if x.1 ≤ m then x.2 else d) 0
theorem foldl_mono (lv lv' : List (Int × Int)) (m : Int) : ∀ d d' : Int, d ≤ d' → lv.length = lv'.length → (∀ (i : Nat) (x y : Int × Int), lv[i]? = some x → lv'[i]? = some y → x.1 = y.1 ∧ x.2 ≤ y.2) → lv.foldl (fun d x => if x.1 ≤ m then x.2 else d) d ≤ lv'.foldl (fun d x => if x.1 ≤ m then x.2 else d) d' := by
  induction lv generalizing lv' with
  | nil => intro d d' hd hl _; cases lv' with
    | nil => exact hd
    | cons => simp at hl
  | cons x lv ih =>
    intro d d' hd hl hp
    cases lv' with
    | nil => simp at hl
    | cons y lv' =>
      obtain ⟨e, hxy⟩ := hp 0 x y rfl rfl
      simp only [List.foldl_cons]
      refine ih lv' _ _ ?_ (by simpa using hl) fun i a b ha hb => hp (i + 1) a b (by simpa using ha) (by simpa using hb)
      rw [e]
      split
      · exact hxy
      · exact hd
theorem dpt_mono {lv lv' : List (Int × Int)} (m : Int) (hl : lv.length = lv'.length) (h : ∀ (i : Nat) (x y : Int × Int), lv[i]? = some x → lv'[i]? = some y → x.1 = y.1 ∧ x.2 ≤ y.2) : dpt lv m ≤ dpt lv' m := foldl_mono lv lv' m 0 0 (Int.le_refl _) hl h
/-- Nothing changes between the minutes from which levels are. -/
theorem dpt_same (lv : List (Int × Int)) {m k : Int} (h : ∀ x : Int × Int, x ∈ lv → (x.1 ≤ m ↔ x.1 ≤ k)) : dpt lv m = dpt lv k := by
  unfold dpt
  suffices ∀ d : Int, lv.foldl (fun d x => if x.1 ≤ m then x.2 else d) d = lv.foldl (fun d x => if x.1 ≤ k then x.2 else d) d from this 0
  induction lv with
  | nil => intro d; rfl
  | cons x lv ih =>
    intro d
    simp only [List.foldl_cons]
    have hx := h x (by simp)
    have e : (if x.1 ≤ m then x.2 else d) = (if x.1 ≤ k then x.2 else d) := by
      by_cases hm : x.1 ≤ m
      · rw [if_pos hm, if_pos (hx.1 hm)]
      · rw [if_neg hm, if_neg (fun h2 => hm (hx.2 h2))]
    rw [e]
    exact ih (fun y hy => h y (by simp [hy])) _
/-- The moments at which a barge can first find the water deep enough. -/
def mts (lv : List (Int × Int)) (c : Int) : List Int := if 2880 < c then [] else c :: (lv.filter fun x => decide (c < x.1)).map (·.1)
/-- The latest moment that is not after a minute. -/
theorem mts_before (lv : List (Int × Int)) {c m : Int} (hc : c ≤ m) (h2880 : c ≤ 2880) : ∃ k ∈ mts lv c, c ≤ k ∧ k ≤ m ∧ dpt lv k = dpt lv m := by
  have hm : ∀ x, x ∈ mts lv c ↔ x = c ∨ ∃ y ∈ lv, c < y.1 ∧ y.1 = x := by
    intro x
    unfold mts
    rw [if_neg (by omega)]
    simp only [List.mem_cons, List.mem_map, List.mem_filter, decide_eq_true_eq]
    constructor
    · rintro (h | ⟨y, ⟨hy, h1⟩, h2⟩)
      · exact .inl h
      · exact .inr ⟨y, hy, h1, h2⟩
    · rintro (h | ⟨y, hy, h1, h2⟩)
      · exact .inl h
      · exact .inr ⟨y, ⟨hy, h1⟩, h2⟩
  suffices ∀ (L : List (Int × Int)), (∀ y ∈ L, y ∈ lv) → ∃ k, k ∈ mts lv c ∧ c ≤ k ∧ k ≤ m ∧ ∀ y ∈ L, y.1 ≤ m → y.1 ≤ k by
    obtain ⟨k, h1, h2, h3, h4⟩ := this lv fun y hy => hy
    exact ⟨k, h1, h2, h3, dpt_same lv fun x hx => ⟨fun h => by omega, fun h => h4 x hx h⟩⟩
  intro L
  induction L with
  | nil => intro _; exact ⟨c, (hm c).2 (.inl rfl), Int.le_refl _, hc, fun y hy => by simp at hy⟩
  | cons x L ih =>
    intro hL
    obtain ⟨k, h1, h2, h3, h4⟩ := ih fun y hy => hL y (by simp [hy])
    by_cases hx : k < x.1 ∧ x.1 ≤ m
    · refine ⟨x.1, (hm _).2 (.inr ⟨x, hL x (by simp), by omega, rfl⟩), by omega, hx.2, fun y hy hym => ?_⟩
      rcases List.mem_cons.1 hy with rfl | hy
      · exact Int.le_refl _
      · have := h4 y hy hym; omega
    · refine ⟨k, h1, h2, h3, fun y hy hym => ?_⟩
      rcases List.mem_cons.1 hy with rfl | hy
      · omega
      · exact h4 y hy hym
/-- Levels as they may be: ascending minutes within the clock. -/
def Asc (lv : List (Int × Int)) : Prop := lv.Pairwise fun x y => x.1 < y.1
theorem mts_asc {lv : List (Int × Int)} (h : Asc lv) (c : Int) : (mts lv c).Pairwise (· < ·) := by
  unfold mts
  split
  · exact List.Pairwise.nil
  · refine List.pairwise_cons.2 ⟨fun x hx => ?_, ?_⟩
    · obtain ⟨y, hy, rfl⟩ := List.mem_map.1 hx
      have := (List.mem_filter.1 hy).2
      simpa using this
    · rw [List.pairwise_map]
      exact List.Pairwise.filter _ h
/-- The first moment at which the water is deep enough is the first minute at which it is. -/
theorem mts_ovr {lv : List (Int × Int)} (h : Asc lv) (hc : ∀ x ∈ lv, x.1 ≤ 2880) {f : Int → Bool} (c : Int) : (mts lv c).find? (fun m => f (dpt lv m)) = ovr (fun m => f (dpt lv m)) c := by
  by_cases h0 : 2880 < c
  · rw [ovr_late h0]; unfold mts; rw [if_pos h0]; rfl
  · cases ho : ovr (fun m => f (dpt lv m)) c with
    | none =>
      rw [List.find?_eq_none]
      intro x hx
      have hb : c ≤ x ∧ x ≤ 2880 := by
        unfold mts at hx
        rw [if_neg h0] at hx
        rcases List.mem_cons.1 hx with rfl | hx
        · omega
        · obtain ⟨y, hy, rfl⟩ := List.mem_map.1 hx
          have h1 := List.mem_filter.1 hy
          have h2 := hc y h1.1
          have h3 : c < y.1 := by simpa using h1.2
          omega
      rw [ovr_none.1 ho x hb.1 hb.2]
      simp
    | some m =>
      obtain ⟨h1, h2, h3, h4⟩ := ovr_some.1 ho
      obtain ⟨k, hk, hck, hkm, hd⟩ := mts_before lv h1 (by omega)
      have hkm' : k = m := by
        rcases Int.lt_or_le k m with hl | hl
        · have := h4 k hck hl
          rw [hd, h3] at this
          cases this
        · omega
      subst hkm'
      rw [List.find?_eq_some_iff_append]
      obtain ⟨asx, bs, e⟩ := List.append_of_mem hk
      refine ⟨h3, asx, bs, e, fun x hx => ?_⟩
      have hp := mts_asc h c
      rw [e, List.pairwise_append] at hp
      have hlt := hp.2.2 x hx k (by simp)
      have hcx : c ≤ x := by
        have hmem : x ∈ mts lv c := by rw [e]; simp [hx]
        unfold mts at hmem
        rw [if_neg h0] at hmem
        rcases List.mem_cons.1 hmem with rfl | hmem
        · exact Int.le_refl _
        · obtain ⟨y, hy, rfl⟩ := List.mem_map.1 hmem
          have h3 : c < y.1 := by simpa using (List.mem_filter.1 hy).2
          omega
      rw [h4 x hcx hlt]
      rfl
/-! All stowages, one after the other. -/
/-- The stowage that comes next: holds go up to a last one, -1 is behind. -/
def aft (last : Int) : List Int → Option (List Int)
  | [] => none
  | x :: r => match aft last r with
    | some r' => some (x :: r')
    | none => if x < last then some ((x + 1) :: List.replicate r.length (-1)) else none
/-- A list in which each one but the last is followed by its next one. -/
def Ch (nx : List Int → Option (List Int)) : List (List Int) → Prop
  | [] => False
  | [a] => nx a = none
  | a :: b :: r => nx a = some b ∧ Ch nx (b :: r)
def blks (A : List (List Int)) : Int → Nat → List (List Int)
  | _, 0 => []
  | h, c + 1 => A.map (fun l => h :: l) ++ blks A (h + 1) c
/-- All stowages of so many lots in lexicographic order. -/
def allS (last : Int) : Nat → List (List Int)
  | 0 => [[]]
  | n + 1 => blks (allS last n) (-1) (last + 2).toNat
theorem blks_len {A : List (List Int)} {n : Nat} (hA : ∀ a ∈ A, a.length = n) : ∀ (c : Nat) (h : Int), ∀ a ∈ blks A h c, a.length = n + 1
  | 0, h, a, ha => by simp [blks] at ha
  | c + 1, h, a, ha => by
    simp only [blks, List.mem_append, List.mem_map] at ha
    rcases ha with ⟨b, hb, rfl⟩ | ha
    · simp [hA b hb]
    · exact blks_len hA c (h + 1) a ha
theorem allS_len (last : Int) : ∀ (n : Nat), ∀ a ∈ allS last n, a.length = n
  | 0, a, ha => by simp [allS] at ha; subst ha; rfl
  | n + 1, a, ha => blks_len (allS_len last n) _ _ a ha
theorem ch_map {last h : Int} {n : Nat} {Y : List (List Int)} : ∀ (A : List (List Int)), Ch (aft last) A → (∀ a ∈ A, a.length = n) → (Y = [] ∧ ¬ h < last ∨ ∃ Y', Y = ((h + 1) :: List.replicate n (-1)) :: Y' ∧ h < last ∧ Ch (aft last) Y) → Ch (aft last) (A.map (fun l => h :: l) ++ Y) := by
  intro A
  induction A with
  | nil => intro hc; cases hc
  | cons a A ih =>
    intro hc hl hY
    cases A with
    | nil =>
      have ha : aft last a = none := hc
      have hal := hl a (by simp)
      rcases hY with ⟨rfl, hn⟩ | ⟨Y', rfl, hlt, hcY⟩
      · show aft last (h :: a) = none
        unfold aft
        rw [ha]
        exact if_neg hn
      · refine ⟨?_, hcY⟩
        unfold aft
        rw [ha]
        show (if h < last then _ else _) = _
        rw [if_pos hlt, hal]
    | cons b A =>
      obtain ⟨h1, h2⟩ := hc
      refine ⟨?_, ih h2 (fun x hx => hl x (by simp [hx])) hY⟩
      unfold aft
      rw [h1]
theorem blks_head {A : List (List Int)} {a : List Int} {r : List (List Int)} (hA : A = a :: r) (h : Int) {c : Nat} (hc : 0 < c) : ∃ Y, blks A h c = (h :: a) :: Y := by
  cases c with
  | zero => omega
  | succ c => subst hA; exact ⟨_, rfl⟩
theorem blks_ch {last : Int} {n : Nat} {A : List (List Int)} {r : List (List Int)} (hA : Ch (aft last) A) (hl : ∀ a ∈ A, a.length = n) (hh : A = List.replicate n (-1) :: r) : ∀ (c : Nat) (h : Int), h + (c : Int) = last → Ch (aft last) (blks A h (c + 1))
  | 0, h, e => by
    show Ch (aft last) (A.map (fun l => h :: l) ++ [])
    exact ch_map A hA hl (.inl ⟨rfl, by omega⟩)
  | c + 1, h, e => by
    show Ch (aft last) (A.map (fun l => h :: l) ++ blks A (h + 1) (c + 1))
    obtain ⟨Y, hY⟩ := blks_head hh (h + 1) (c := c + 1) (by omega)
    refine ch_map A hA hl (.inr ⟨Y, hY, by omega, blks_ch hA hl hh c (h + 1) (by omega)⟩)
theorem allS_head {last : Int} (hl : -1 ≤ last) : ∀ n : Nat, ∃ r, allS last n = List.replicate n (-1) :: r
  | 0 => ⟨[], rfl⟩
  | n + 1 => by
    obtain ⟨r, hr⟩ := allS_head hl n
    obtain ⟨Y, hY⟩ := blks_head hr (-1) (c := (last + 2).toNat) (by omega)
    exact ⟨Y, by show blks _ _ _ = _; rw [hY, List.replicate_succ]⟩
theorem allS_ch {last : Int} (hl : -1 ≤ last) : ∀ n : Nat, Ch (aft last) (allS last n)
  | 0 => rfl
  | n + 1 => by
    obtain ⟨r, hr⟩ := allS_head hl n
    show Ch (aft last) (blks _ _ _)
    rw [show (last + 2).toNat = (last + 1).toNat + 1 by omega]
    exact blks_ch (allS_ch hl n) (allS_len last n) hr _ _ (by omega)
theorem ch_next {nx : List Int → Option (List Int)} : ∀ {L : List (List Int)}, Ch nx L → ∀ (k : Nat) (a : List Int), L[k]? = some a → nx a = L[k + 1]?
  | [], h, _, _, _ => by cases h
  | [b], h, k, a, hk => by
    cases k with
    | zero => simp at hk; subst hk; exact h
    | succ k => simp at hk
  | b :: c :: r, h, k, a, hk => by
    cases k with
    | zero => simp at hk; subst hk; simpa using h.1
    | succ k => simpa using ch_next h.2 k a (by simpa using hk)
theorem blks_mem {A : List (List Int)} {x : List Int} : ∀ (c : Nat) (h : Int), x ∈ blks A h c ↔ ∃ (y : Int) (a : List Int), h ≤ y ∧ y < h + c ∧ a ∈ A ∧ x = y :: a
  | 0, h => by
    simp only [blks, List.not_mem_nil, false_iff]
    rintro ⟨y, a, h1, h2, _⟩
    omega
  | c + 1, h => by
    simp only [blks, List.mem_append, List.mem_map]
    rw [blks_mem c (h + 1)]
    constructor
    · rintro (⟨a, ha, rfl⟩ | ⟨y, a, h1, h2, h3, rfl⟩)
      · exact ⟨h, a, by omega, by omega, ha, rfl⟩
      · exact ⟨y, a, by omega, by omega, h3, rfl⟩
    · rintro ⟨y, a, h1, h2, h3, rfl⟩
      by_cases e : y = h
      · subst e; exact .inl ⟨a, h3, rfl⟩
      · exact .inr ⟨y, a, by omega, by omega, h3, rfl⟩
theorem allS_mem {last : Int} (hl : -1 ≤ last) : ∀ (n : Nat) (x : List Int), x ∈ allS last n ↔ x.length = n ∧ ∀ y ∈ x, -1 ≤ y ∧ y ≤ last
  | 0, x => by
    simp only [allS, List.mem_singleton]
    constructor
    · rintro rfl; exact ⟨rfl, fun y hy => by simp at hy⟩
    · rintro ⟨h, _⟩; exact List.eq_nil_of_length_eq_zero h
  | n + 1, x => by
    show x ∈ blks _ _ _ ↔ _
    rw [blks_mem]
    constructor
    · rintro ⟨y, a, h1, h2, h3, rfl⟩
      obtain ⟨g1, g2⟩ := (allS_mem hl n a).1 h3
      refine ⟨by simp [g1], fun z hz => ?_⟩
      rcases List.mem_cons.1 hz with rfl | hz
      · exact ⟨h1, by omega⟩
      · exact g2 z hz
    · rintro ⟨h1, h2⟩
      cases x with
      | nil => simp at h1
      | cons y a =>
        have := h2 y (by simp)
        exact ⟨y, a, this.1, by omega, (allS_mem hl n a).2 ⟨by simpa using h1, fun z hz => h2 z (by simp [hz])⟩, rfl⟩
/-- The first one of those that are good that has the most worth. -/
def pick (ok : List Int → Bool) (wo : List Int → Int) (r : Option (List Int)) (x : List Int) : Option (List Int) :=
  if ok x = true ∧ (match r with | none => -1 | some m => wo m) < wo x then some x else r
def bst (ok : List Int → Bool) (wo : List Int → Int) (L : List (List Int)) : Option (List Int) := L.foldl (pick ok wo) none
theorem best_snoc (ok : List Int → Bool) (wo : List Int → Int) (L : List (List Int)) (x : List Int) : bst ok wo (L ++ [x]) = pick ok wo (bst ok wo L) x := by simp [bst]
/-! Voyages and stowages as data, and what is said of them. -/
structure Hd where
  (rm bw st : Int)
deriving DecidableEq
structure Lv where
  (fr d0 d1 : Int)
deriving DecidableEq
structure Si where
  (t0 t1 : Int)
  (lv : List Lv)
deriving DecidableEq
structure Cg where
  (t0 t1 wo : Int)
deriving DecidableEq
structure Vg where
  (li un tr le : Int)
  (hs : List Hd)
  (ss : List Si)
  (ls : List Cg)
deriving DecidableEq
/-! Which voyages are valid. -/
def ckHd (h : Hd) : Int := if 0 ≤ h.bw ∧ h.bw ≤ 10000 ∧ 0 ≤ h.st ∧ h.st ≤ 10000 ∧ 0 ≤ h.rm ∧ h.rm ≤ 5000 then 0 else 1
def ckHds : List Hd → Int
  | [] => 0
  | h :: r => if ckHd h ≠ 0 then ckHd h else ckHds r
def ckHs (L : List Hd) : Int := if L.length < 1 then 7 else if 3 < L.length then 6 else ckHds L
def ckLv (p : Option Int) (l : Lv) : Int := if ¬ (0 ≤ l.fr ∧ l.fr ≤ 2880) then 1 else match p with
  | none => if l.fr ≠ 0 then 2 else ckR l.d0 l.d1 0 10000
  | some q => if l.fr ≤ q then 5 else ckR l.d0 l.d1 0 10000
def ckLvs : Option Int → List Lv → Int
  | _, [] => 0
  | p, l :: r => if ckLv p l ≠ 0 then ckLv p l else ckLvs (some l.fr) r
def ckLl (L : List Lv) : Int := if L.length < 1 then 7 else if 6 < L.length then 6 else ckLvs none L
def ckSi (s : Si) : Int := if ckR s.t0 s.t1 0 2880 ≠ 0 then ckR s.t0 s.t1 0 2880 else ckLl s.lv
def ckSis : List Si → Int
  | [] => 0
  | s :: r => if ckSi s ≠ 0 then ckSi s else ckSis r
def ckSs (L : List Si) : Int := if 4 < L.length then 6 else ckSis L
def ckCg (c : Cg) : Int := if ckR c.t0 c.t1 0 5000 ≠ 0 then ckR c.t0 c.t1 0 5000 else if ¬ (0 ≤ c.wo ∧ c.wo ≤ 100000) then 1 else 0
def ckCgs : List Cg → Int
  | [] => 0
  | c :: r => if ckCg c ≠ 0 then ckCg c else ckCgs r
def ckCs (L : List Cg) : Int := if 6 < L.length then 6 else ckCgs L
def ckBg (v : Vg) : Int := if 0 ≤ v.li ∧ v.li ≤ 5000 ∧ 0 ≤ v.un ∧ v.un ≤ 5000 ∧ 0 ≤ v.tr ∧ v.tr ≤ 5000 then 0 else 1
def ckV (v : Vg) : Int := if ckBg v ≠ 0 then ckBg v else if ckHs v.hs ≠ 0 then ckHs v.hs else if ¬ (0 ≤ v.le ∧ v.le ≤ 2880) then 1 else if ckSs v.ss ≠ 0 then ckSs v.ss else ckCs v.ls
/-! Good voyages. -/
structure Hd.Ok (h : Hd) : Prop where
  rm : 0 ≤ h.rm ∧ h.rm ≤ 5000
  bw : 0 ≤ h.bw ∧ h.bw ≤ 10000
  st : 0 ≤ h.st ∧ h.st ≤ 10000
structure Lv.Ok (l : Lv) : Prop where
  fr : 0 ≤ l.fr ∧ l.fr ≤ 2880
  d0 : 0 ≤ l.d0
  d01 : l.d0 ≤ l.d1
  d1 : l.d1 ≤ 10000
structure Si.Ok (s : Si) : Prop where
  t0 : 0 ≤ s.t0
  t01 : s.t0 ≤ s.t1
  t1 : s.t1 ≤ 2880
  l1 : 1 ≤ s.lv.length
  l6 : s.lv.length ≤ 6
  asc : s.lv.Pairwise fun x y => x.fr < y.fr
  lv : ∀ l ∈ s.lv, l.Ok
structure Cg.Ok (c : Cg) : Prop where
  t0 : 0 ≤ c.t0
  t01 : c.t0 ≤ c.t1
  t1 : c.t1 ≤ 5000
  wo : 0 ≤ c.wo ∧ c.wo ≤ 100000
structure Vg.Ok (v : Vg) : Prop where
  li : 0 ≤ v.li ∧ v.li ≤ 5000
  un : 0 ≤ v.un ∧ v.un ≤ 5000
  tr : 0 ≤ v.tr ∧ v.tr ≤ 5000
  le : 0 ≤ v.le ∧ v.le ≤ 2880
  h1 : 1 ≤ v.hs.length
  h3 : v.hs.length ≤ 3
  hs : ∀ h ∈ v.hs, h.Ok
  s4 : v.ss.length ≤ 4
  ss : ∀ s ∈ v.ss, s.Ok
  l6 : v.ls.length ≤ 6
  ls : ∀ c ∈ v.ls, c.Ok
theorem ckR_ok {a b lo hi : Int} : ckR a b lo hi = 0 ↔ lo ≤ a ∧ a ≤ b ∧ b ≤ hi := by
  unfold ckR
  constructor
  · intro h
    split at h
    · cases h
    · split at h
      · cases h
      · omega
  · intro h
    rw [if_neg (by omega), if_neg (by omega)]
theorem ckHd_ok {h : Hd} : ckHd h = 0 ↔ h.Ok := by
  unfold ckHd
  constructor
  · intro e
    split at e
    · exact ⟨by omega, by omega, by omega⟩
    · cases e
  · intro k
    have := k.rm; have := k.bw; have := k.st
    rw [if_pos (by omega)]
theorem ckHds_ok : ∀ {L : List Hd}, ckHds L = 0 ↔ ∀ h ∈ L, h.Ok
  | [] => by simp [ckHds]
  | h :: r => by
    unfold ckHds
    constructor
    · intro e
      split at e
      · rename_i hn; exact absurd e hn
      · rename_i hn
        intro x hx
        rcases List.mem_cons.1 hx with rfl | hx
        · exact ckHd_ok.1 (by omega)
        · exact ckHds_ok.1 e x hx
    · intro k
      rw [if_neg (by rw [ckHd_ok.2 (k h (by simp))]; simp)]
      exact ckHds_ok.2 fun x hx => k x (by simp [hx])
theorem ckLvs_ok : ∀ {L : List Lv} {p : Option Int}, ckLvs p L = 0 ↔ (∀ l ∈ L, l.Ok) ∧ (L.Pairwise fun x y => x.fr < y.fr) ∧ (match p, L with
    | _, [] => True
    | none, l :: _ => l.fr = 0
    | some q, l :: _ => q < l.fr)
  | [], p => by cases p <;> simp [ckLvs]
  | l :: r, p => by
    unfold ckLvs
    have key : ckLv p l = 0 ↔ l.Ok ∧ (match p with | none => l.fr = 0 | some q => q < l.fr) := by
      unfold ckLv
      constructor
      · intro e
        split at e
        · cases e
        · rename_i h1
          have h1' : 0 ≤ l.fr ∧ l.fr ≤ 2880 := by
            rcases Classical.em (0 ≤ l.fr ∧ l.fr ≤ 2880) with h | h
            · exact h
            · exact absurd h h1
          cases p with
          | none =>
            dsimp only at e ⊢
            split at e
            · cases e
            · have := ckR_ok.1 e; exact ⟨⟨h1', by omega, by omega, by omega⟩, by omega⟩
          | some q =>
            dsimp only at e ⊢
            split at e
            · cases e
            · have := ckR_ok.1 e; exact ⟨⟨h1', by omega, by omega, by omega⟩, by omega⟩
      · rintro ⟨h, hp⟩
        rw [if_neg (fun k => k h.fr)]
        cases p with
        | none => dsimp only at hp ⊢; rw [if_neg (by omega)]; exact ckR_ok.2 ⟨h.d0, h.d01, h.d1⟩
        | some q => dsimp only at hp ⊢; rw [if_neg (by omega)]; exact ckR_ok.2 ⟨h.d0, h.d01, h.d1⟩
    have ih := ckLvs_ok (L := r) (p := some l.fr)
    constructor
    · intro e
      split at e
      · rename_i hn; exact absurd e hn
      · rename_i hn
        obtain ⟨k1, k2⟩ := key.1 (by omega)
        obtain ⟨i1, i2, i3⟩ := ih.1 e
        refine ⟨fun x hx => ?_, List.pairwise_cons.2 ⟨fun y hy => ?_, i2⟩, ?_⟩
        · rcases List.mem_cons.1 hx with rfl | hx
          · exact k1
          · exact i1 x hx
        · cases r with
          | nil => simp at hy
          | cons z r =>
            dsimp only at i3
            rcases List.mem_cons.1 hy with rfl | hy
            · exact i3
            · have := (List.pairwise_cons.1 i2).1 y hy; omega
        · cases p <;> exact k2
    · rintro ⟨k1, k2, k3⟩
      rw [if_neg]
      · refine ih.2 ⟨fun x hx => k1 x (by simp [hx]), (List.pairwise_cons.1 k2).2, ?_⟩
        cases r with
        | nil => trivial
        | cons z r => exact (List.pairwise_cons.1 k2).1 z (by simp)
      · rw [key.2 ⟨k1 l (by simp), by cases p <;> exact k3⟩]; simp
theorem ckLl_ok {L : List Lv} : ckLl L = 0 → 1 ≤ L.length ∧ L.length ≤ 6 ∧ (∀ l ∈ L, l.Ok) ∧ L.Pairwise fun x y => x.fr < y.fr := by
  unfold ckLl
  intro e
  split at e
  · cases e
  · split at e
    · cases e
    · have := ckLvs_ok.1 e
      exact ⟨by omega, by omega, this.1, this.2.1⟩
theorem ckSi_ok {s : Si} (h : ckSi s = 0) : s.Ok := by
  unfold ckSi at h
  split at h
  · rename_i hn; exact absurd h hn
  · rename_i hn
    have k := (ckR_ok (a := s.t0) (b := s.t1) (lo := 0) (hi := 2880)).1 (by omega)
    obtain ⟨a, b, c, d⟩ := ckLl_ok h
    exact ⟨k.1, k.2.1, k.2.2, a, b, d, c⟩
theorem ckSis_ok : ∀ {L : List Si}, ckSis L = 0 → ∀ s ∈ L, s.Ok
  | [], _, s, hs => by simp at hs
  | x :: r, h, s, hs => by
    unfold ckSis at h
    split at h
    · rename_i hn; exact absurd h hn
    · rename_i hn
      rcases List.mem_cons.1 hs with rfl | hs
      · exact ckSi_ok (by omega)
      · exact ckSis_ok h s hs
theorem ckCg_ok {c : Cg} (h : ckCg c = 0) : c.Ok := by
  unfold ckCg at h
  split at h
  · rename_i hn; exact absurd h hn
  · rename_i hn
    have k := (ckR_ok (a := c.t0) (b := c.t1) (lo := 0) (hi := 5000)).1 (by omega)
    split at h
    · cases h
    · exact ⟨k.1, k.2.1, k.2.2, by omega⟩
theorem ckCgs_ok : ∀ {L : List Cg}, ckCgs L = 0 → ∀ s ∈ L, s.Ok
  | [], _, s, hs => by simp at hs
  | x :: r, h, s, hs => by
    unfold ckCgs at h
    split at h
    · rename_i hn; exact absurd h hn
    · rename_i hn
      rcases List.mem_cons.1 hs with rfl | hs
      · exact ckCg_ok (by omega)
      · exact ckCgs_ok h s hs
theorem ckV_ok {v : Vg} (h : ckV v = 0) : v.Ok := by
  unfold ckV at h
  split at h
  · rename_i hn; exact absurd h hn
  rename_i h1
  split at h
  · rename_i hn; exact absurd h hn
  rename_i h2
  split at h
  · cases h
  rename_i h3
  split at h
  · rename_i hn; exact absurd h hn
  rename_i h4
  have b : 0 ≤ v.li ∧ v.li ≤ 5000 ∧ 0 ≤ v.un ∧ v.un ≤ 5000 ∧ 0 ≤ v.tr ∧ v.tr ≤ 5000 := by
    have e : ckBg v = 0 := by omega
    unfold ckBg at e
    split at e
    · assumption
    · cases e
  have hh : 1 ≤ v.hs.length ∧ v.hs.length ≤ 3 ∧ ∀ h ∈ v.hs, h.Ok := by
    have e : ckHs v.hs = 0 := by omega
    unfold ckHs at e
    split at e
    · cases e
    · split at e
      · cases e
      · exact ⟨by omega, by omega, ckHds_ok.1 e⟩
  have hs : v.ss.length ≤ 4 ∧ ∀ s ∈ v.ss, s.Ok := by
    have e : ckSs v.ss = 0 := by omega
    unfold ckSs at e
    split at e
    · cases e
    · exact ⟨by omega, ckSis_ok e⟩
  have hc : v.ls.length ≤ 6 ∧ ∀ s ∈ v.ls, s.Ok := by
    unfold ckCs at h
    split at h
    · cases h
    · exact ⟨by omega, ckCgs_ok h⟩
  exact ⟨by omega, by omega, by omega, by omega, hh.1, hh.2.1, hh.2.2, hs.1, hs.2, hc.1, hc.2⟩
/-! Stowages. -/
def hd (hs : List Hd) (h : Int) : Hd := (hs[h.toNat]?).getD ⟨0, 0, 0⟩
/-- The lots that a stowage has in holds, each with its hold. -/
def abd (ls : List Cg) (s : List Int) : List (Cg × Int) := (ls.zip s).filter fun p => decide (p.2 ≠ -1)
/-- A stowage with as many numbers as lots, each that of a hold, or -1. -/
def InH (n : Nat) (s : List Int) : Prop := ∀ h ∈ s, -1 ≤ h ∧ h < n
def inHb (n : Nat) (s : List Int) : Bool := s.all fun h => decide (-1 ≤ h) && decide (h < n)
theorem inHb_iff {n : Nat} {s : List Int} : inHb n s = true ↔ InH n s := by
  unfold inHb InH
  rw [List.all_eq_true]
  constructor
  · intro h x hx; have := h x hx; simpa using this
  · intro h x hx; have := h x hx; simpa using this
/-- What lots in the hold h weigh at most. -/
def sumH (L : List (Cg × Int)) (h : Int) : Int := ((L.filter fun p => decide (p.2 = h)).map fun p => p.1.t1).sum
def roomOk (hs : List Hd) (L : List (Cg × Int)) : Bool := (List.range hs.length).all fun k => decide (sumH L (k : Int) ≤ (hd hs k).rm)
theorem sumH_cons (p : Cg × Int) (r : List (Cg × Int)) (h : Int) : sumH (p :: r) h = (if p.2 = h then p.1.t1 else 0) + sumH r h := by
  unfold sumH
  by_cases e : p.2 = h
  · rw [List.filter_cons_of_pos (by simpa using e), if_pos e]; simp
  · rw [List.filter_cons_of_neg (by simpa using e), if_neg e]; simp
theorem roomOk_iff {hs : List Hd} {L : List (Cg × Int)} : roomOk hs L = true ↔ ∀ k : Nat, k < hs.length → sumH L k ≤ (hd hs k).rm := by
  unfold roomOk
  rw [List.all_eq_true]
  constructor
  · intro h k hk; have := h k (List.mem_range.2 hk); simpa using this
  · intro h k hk; have := h k (List.mem_range.1 hk); simpa using this
def ckSt (v : Vg) (s : List Int) : Int := if ckV v ≠ 0 then ckV v else if s.length ≠ v.ls.length then 2 else if inHb v.hs.length s = false then 3 else if roomOk v.hs (abd v.ls s) = false then 13 else 0
structure StOk (v : Vg) (s : List Int) : Prop where
  ok : v.Ok
  len : s.length = v.ls.length
  inh : InH v.hs.length s
  room : roomOk v.hs (abd v.ls s) = true
theorem ckSt_ok {v : Vg} {s : List Int} (h : ckSt v s = 0) : StOk v s := by
  unfold ckSt at h
  split at h
  · rename_i hn; exact absurd h hn
  rename_i h1
  split at h
  · cases h
  rename_i h2
  split at h
  · cases h
  rename_i h3
  split at h
  · cases h
  rename_i h4
  exact ⟨ckV_ok (by omega), by omega, inHb_iff.1 (by simpa using h3), by simpa using h4⟩
theorem abd_mem {ls : List Cg} {s : List Int} {p : Cg × Int} (h : p ∈ abd ls s) : p.1 ∈ ls ∧ p.2 ∈ s ∧ p.2 ≠ -1 := by
  unfold abd at h
  obtain ⟨h1, h2⟩ := List.mem_filter.1 h
  exact ⟨(List.of_mem_zip h1).1, (List.of_mem_zip h1).2, by simpa using h2⟩
theorem abd_len (ls : List Cg) (s : List Int) : (abd ls s).length ≤ ls.length := by
  unfold abd
  refine Nat.le_trans (List.length_filter_le _ _) ?_
  simp; omega
/-! How deep the ends lie. -/
def ton (g : Bool) (c : Cg) : Int := if g then c.t0 else c.t1
def deepB (v : Vg) (L : List (Cg × Int)) (g : Bool) : Int := 1000 * v.li + (L.map fun p => ton g p.1 * (hd v.hs p.2).bw).sum
def deepS (v : Vg) (L : List (Cg × Int)) (g : Bool) : Int := 1000 * v.li + (L.map fun p => ton g p.1 * (hd v.hs p.2).st).sum
/-- Products of a range with a number. -/
def tms (a b n : Int) : Int × Int := if n < 0 then (b * n, a * n) else (a * n, b * n)
def tiltP (hs : List Hd) (L : List (Cg × Int)) : Int × Int :=
  ((L.map fun p => (tms p.1.t0 p.1.t1 ((hd hs p.2).bw - (hd hs p.2).st)).1).sum, (L.map fun p => (tms p.1.t0 p.1.t1 ((hd hs p.2).bw - (hd hs p.2).st)).2).sum)
def lvlOk (v : Vg) (x : Int × Int) : Bool := decide (max x.2 (-x.1) ≤ 1000 * v.tr)
def needsM (v : Vg) (L : List (Cg × Int)) (g : Bool) : Int := max (deepB v L g) (deepS v L g) + 1000 * v.un
/-- The levels of a sill with some luck. -/
def lvD (s : Si) (g : Bool) : List (Int × Int) := s.lv.map fun l => (l.fr, if g then l.d1 else l.d0)
def way (s : Si) (g : Bool) : Int := if g then s.t0 else s.t1
def slM (needs : Int) (ss : List Si) (g : Bool) : List (Int × (Int → Bool)) := ss.map fun s => (way s g, fun m => decide (needs ≤ 1000 * dpt (lvD s g) m))
def salM (v : Vg) (L : List (Cg × Int)) (g : Bool) : List Int := sal (slM (needsM v L g) v.ss g) v.le
def passM (v : Vg) (L : List (Cg × Int)) : Bool := decide ((salM v L false).length = v.ss.length)
def verdM (n a b : Nat) : Int := if b = n then 1 else if a < n then 2 else 3
def worM (L : List (Cg × Int)) : Int := (L.map fun p => p.1.wo).sum
def bestM (v : Vg) : Option (List Int) := bst (fun s => roomOk v.hs (abd v.ls s) && lvlOk v (tiltP v.hs (abd v.ls s)) && passM v (abd v.ls s)) (fun s => worM (abd v.ls s)) (allS ((v.hs.length : Int) - 1) v.ls.length)
end Go.Proofs.YtdlohfglmagneaaDoor
