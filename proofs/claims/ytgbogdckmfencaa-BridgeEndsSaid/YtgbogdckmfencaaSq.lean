/- Slips that are made: the axles of a log, some of them full, the others bare. Nothing of the program. -/
import Derived.Test.YtgbogdckmfencaaNh
set_option linter.unusedSimpArgs false
set_option linter.unusedVariables false
namespace Go.Proofs.Ytgbogdckmfencaa
/-- An event of a load. -/
def ldAt (es : List Ev) (x : Int) : Prop := 0 ≤ x ∧ x < (es.length : Int) ∧ kdAt es x = 3
/-- Loads up to an event, ascending. -/
structure AtOk (es : List Ev) (i : Nat) (l : List Int) : Prop where
  asc : l.Pairwise (· < ·)
  mem : ∀ x ∈ l, ldAt es x ∧ x < (i : Int)
theorem AtOk.nil (es : List Ev) : AtOk es 0 [] := ⟨List.Pairwise.nil, fun x hx => by cases hx⟩
theorem AtOk.skip {es : List Ev} {i : Nat} {l : List Int} (h : AtOk es i l) : AtOk es (i + 1) l := ⟨h.asc, fun x hx => ⟨(h.mem x hx).1, by have := (h.mem x hx).2; omega⟩⟩
theorem AtOk.take {es : List Ev} {i : Nat} {l : List Int} (h : AtOk es i l) (hi : i < es.length) (hk : es[i].kd = 3) : AtOk es (i + 1) (l ++ [(i : Int)]) := by
  refine ⟨?_, fun x hx => ?_⟩
  · rw [List.pairwise_append]
    exact ⟨h.asc, List.pairwise_singleton _ _, fun a ha b hb => by
      obtain rfl : b = (i : Int) := by simpa using hb
      exact (h.mem a ha).2⟩
  · rcases List.mem_append.1 hx with hx | hx
    · exact ⟨(h.mem x hx).1, by have := (h.mem x hx).2; omega⟩
    · obtain rfl : x = (i : Int) := by simpa using hx
      refine ⟨⟨by omega, by omega, ?_⟩, by omega⟩
      unfold kdAt
      rw [Int.toNat_natCast, List.getElem?_eq_getElem hi]
      exact hk
/-- Some of the first j axles of a list are full, some bare. -/
structure SpOk (l : List Int) (a j : Nat) (F B : List Int) : Prop where
  fa : F.Pairwise (· < ·)
  ba : B.Pairwise (· < ·)
  fm : ∀ x ∈ F, x ∈ l.take j
  bm : ∀ x ∈ B, x ∈ l.take j
  fl : F.length ≤ a
  bl : B.length ≤ a
  ap : ∀ x ∈ F, x ∉ B
theorem SpOk.nil (l : List Int) (a : Nat) : SpOk l a 0 [] [] := ⟨.nil, .nil, (fun x h => by cases h), (fun x h => by cases h), Nat.zero_le _, Nat.zero_le _, (fun x h => by cases h)⟩
theorem take_lt {l : List Int} (h : l.Pairwise (· < ·)) {j : Nat} (hj : j < l.length) : ∀ x ∈ l.take j, x < l[j] := by
  intro x hx
  obtain ⟨i, hi, rfl⟩ := List.mem_iff_getElem.1 hx
  rw [List.length_take] at hi
  rw [List.getElem_take]
  exact List.pairwise_iff_getElem.1 h i j _ hj (by omega)
theorem mem_take_succ {l : List Int} {j : Nat} {x : Int} (h : x ∈ l.take j) : x ∈ l.take (j + 1) := by
  rcases Nat.lt_or_ge j l.length with hj | hj
  · rw [List.take_succ_eq_append_getElem hj]; exact List.mem_append_left _ h
  · rw [List.take_of_length_le (by omega)]; exact List.mem_of_mem_take h
theorem at_take_succ {l : List Int} {j : Nat} (hj : j < l.length) : l[j] ∈ l.take (j + 1) := by rw [List.take_succ_eq_append_getElem hj]; exact List.mem_append_right _ (by simp)
theorem snoc_asc {l X : List Int} (h : l.Pairwise (· < ·)) {j : Nat} (hj : j < l.length) (hx : X.Pairwise (· < ·)) (hm : ∀ x ∈ X, x ∈ l.take j) : (X ++ [l[j]]).Pairwise (· < ·) := by
  rw [List.pairwise_append]
  exact ⟨hx, List.pairwise_singleton _ _, fun a ha b hb => by
    obtain rfl : b = l[j] := by simpa using hb
    exact take_lt h hj a (hm a ha)⟩
theorem SpOk.full {l : List Int} {a j : Nat} {F B : List Int} (h : SpOk l a j F B) (hl : l.Pairwise (· < ·)) (hj : j < l.length) (hf : F.length < a) : SpOk l a (j + 1) (F ++ [l[j]]) B := by
  refine ⟨snoc_asc hl hj h.fa h.fm, h.ba, fun x hx => ?_, fun x hx => mem_take_succ (h.bm x hx), by rw [List.length_append, List.length_singleton]; omega, h.bl, fun x hx hb => ?_⟩
  · rcases List.mem_append.1 hx with hx | hx
    · exact mem_take_succ (h.fm x hx)
    · obtain rfl : x = l[j] := by simpa using hx
      exact at_take_succ hj
  · rcases List.mem_append.1 hx with hx | hx
    · exact h.ap x hx hb
    · obtain rfl : x = l[j] := by simpa using hx
      have := take_lt hl hj _ (h.bm _ hb)
      omega
theorem SpOk.bare {l : List Int} {a j : Nat} {F B : List Int} (h : SpOk l a j F B) (hl : l.Pairwise (· < ·)) (hj : j < l.length) (hb : B.length < a) : SpOk l a (j + 1) F (B ++ [l[j]]) := by
  refine ⟨h.fa, snoc_asc hl hj h.ba h.bm, fun x hx => mem_take_succ (h.fm x hx), fun x hx => ?_, h.fl, by rw [List.length_append, List.length_singleton]; omega, fun x hx hb2 => ?_⟩
  · rcases List.mem_append.1 hx with hx | hx
    · exact mem_take_succ (h.bm x hx)
    · obtain rfl : x = l[j] := by simpa using hx
      exact at_take_succ hj
  · rcases List.mem_append.1 hb2 with hb2 | hb2
    · exact h.ap x hx hb2
    · obtain rfl : x = l[j] := by simpa using hb2
      have := take_lt hl hj _ (h.fm _ hx)
      omega
theorem asc_split {B : List Int} (h : B.Pairwise (· < ·)) : ∀ x ∈ B.take 1, x ∉ B.drop 1 := by
  intro x hx hd
  cases B with
  | nil => simp at hx
  | cons b r =>
    obtain rfl : x = b := by simpa using hx
    have hd' : x ∈ r := by simpa using hd
    have := (List.pairwise_cons.1 h).1 x hd'
    omega
theorem SpOk.split {l : List Int} {a j : Nat} {B : List Int} (h : SpOk l a j [] B) (ha : 1 ≤ a) : SpOk l a j (B.take 1) (B.drop 1) :=
  ⟨h.ba.sublist (List.take_sublist _ _), h.ba.sublist (List.drop_sublist _ _), fun x hx => h.bm x (List.mem_of_mem_take hx), fun x hx => h.bm x (List.mem_of_mem_drop hx), by rw [List.length_take]; omega, by rw [List.length_drop]; have := h.bl; omega, asc_split h.ba⟩
theorem SpOk.split2 {l : List Int} {a j : Nat} {F : List Int} (h : SpOk l a j F []) (ha : 1 ≤ a) : SpOk l a j (F.drop 1) (F.take 1) :=
  ⟨h.fa.sublist (List.drop_sublist _ _), h.fa.sublist (List.take_sublist _ _), fun x hx => h.fm x (List.mem_of_mem_drop hx), fun x hx => h.fm x (List.mem_of_mem_take hx), by rw [List.length_drop]; have := h.fl; omega, by rw [List.length_take]; omega, fun x hx hb => asc_split h.fa x hb hx⟩
theorem ckAx_ok {es : List Ev} : ∀ (axs : List Int) (b : Int), (b :: axs).Pairwise (· < ·) → (∀ x ∈ axs, ldAt es x) → ckAx es b axs = 0
  | [], _, _, _ => rfl
  | a :: r, b, h, hm => by
    obtain ⟨h1, h2, h3⟩ := hm a (by simp)
    have hb := (List.pairwise_cons.1 h).1 a (by simp)
    rw [ckAx, if_neg (by omega), if_neg (by simp [h3]), if_neg (by omega)]
    exact ckAx_ok r a (List.pairwise_cons.1 h).2 fun x hx => hm x (by simp [hx])
theorem ckA_ok {es : List Ev} {axs : List Int} (h1 : 1 ≤ axs.length) (h2 : axs.length ≤ 4) (h : axs.Pairwise (· < ·)) (hm : ∀ x ∈ axs, ldAt es x) : ckA es axs = 0 := by
  unfold ckA
  rw [if_neg (by omega), if_neg (by omega)]
  refine ckAx_ok axs (-1) (List.pairwise_cons.2 ⟨fun x hx => by have := (hm x hx).1; omega, h⟩) hm
/-- A slip that is made of a valid log is valid. -/
theorem ckS_made {st z0 z1 : Int} {es : List Ev} {l F B : List Int} {i a j : Nat} {fs bs d0 d1 : Int} (hck : ckL st z0 z1 es = 0) (hat : AtOk es i l) (hsp : SpOk l a j F B) (ha : a ≤ 4) (hf : 1 ≤ F.length) (hb : 1 ≤ B.length) (h1 : 0 ≤ fs) (h2 : fs ≤ 2) (h3 : 0 ≤ bs) (h4 : bs ≤ 2) (h5 : 0 ≤ d0) (h6 : d0 ≤ d1) (h7 : d1 ≤ 200) : ckS st z0 z1 es F B fs bs d0 d1 = 0 := by
  have hF := ckA_ok hf (by have := hsp.fl; omega) hsp.fa (fun x hx => (hat.mem x (List.mem_of_mem_take (hsp.fm x hx))).1)
  have hB := ckA_ok hb (by have := hsp.bl; omega) hsp.ba (fun x hx => (hat.mem x (List.mem_of_mem_take (hsp.bm x hx))).1)
  have ho : overlap F B = false := by
    unfold overlap
    rw [List.any_eq_false]
    intro x hx hc
    exact hsp.ap x hx (by simpa using hc)
  have hr : ckR d0 d1 0 200 = 0 := by unfold ckR; rw [if_neg (by omega), if_neg (by omega)]
  unfold ckS
  rw [if_neg (by rw [hck]; simp), if_neg (by rw [hF]; simp), if_neg (by rw [hB]; simp), if_neg (by rw [ho]; simp), if_neg (by unfold seatB; simp; omega)]
  exact hr
end Go.Proofs.Ytgbogdckmfencaa
