/- BridgeBest: no other zero is better to be known: told logs, CopySlip, told, and the statement's run. -/
import Derived.Test.YtgbogdckmfencaaMo
import Derived.Test.YtgbogdckmfencaaSq
import Derived.Test.YtgbogdckmfencaaBg
set_option linter.unusedSimpArgs false
set_option linter.unusedVariables false
namespace Go.Proofs.Ytgbogdckmfencaa
section
/-- An empty bridge that shows a zero. -/
def tell (y : Int) : Ev := ⟨1, y, 0, 0, 0⟩
def toldEs (es : List Ev) (i : Nat) (y : Int) : List Ev := es.take (i + 1) ++ tell y :: es.drop (i + 1)
def shOne (i : Nat) (x : Int) : Int := if (i : Int) < x then x + 1 else x
theorem told_len {es : List Ev} {i : Nat} (hi : i < es.length) (y : Int) : (toldEs es i y).length = es.length + 1 := by unfold toldEs; simp; omega
theorem told_lo {es : List Ev} {i : Nat} (hi : i < es.length) (y : Int) {j : Nat} (hj : j ≤ i) : (toldEs es i y)[j]? = es[j]? := by
  unfold toldEs
  rw [List.getElem?_append_left (by simp; omega), List.getElem?_take, if_pos (by omega)]
theorem told_at {es : List Ev} {i : Nat} (hi : i < es.length) (y : Int) : (toldEs es i y)[i + 1]? = some (tell y) := by
  unfold toldEs
  have hl : (es.take (i + 1)).length = i + 1 := by simp; omega
  rw [List.getElem?_append_right (by omega), hl, Nat.sub_self]
  rfl
theorem told_hi {es : List Ev} {i : Nat} (hi : i < es.length) (y : Int) {j : Nat} (hj : i < j) : (toldEs es i y)[j + 1]? = es[j]? := by
  unfold toldEs
  have hl : (es.take (i + 1)).length = i + 1 := by simp; omega
  rw [List.getElem?_append_right (by omega), hl, show j + 1 - (i + 1) = (j - i - 1) + 1 by omega, List.getElem?_cons_succ, List.getElem?_drop]
  congr 1
  omega
theorem tell_shown {y : Int} (h1 : -200 ≤ y) (h2 : y ≤ 200) : sLo 1 (tell y) = y ∧ sHi 1 (tell y) = y := by
  unfold sLo sHi tell ldLo ldHi
  simp
  omega
section
variable {z0 z1 : Int} {es : List Ev} {i : Nat} {y : Int} (hi : i < es.length) (h1 : -200 ≤ y) (h2 : y ≤ 200)
include hi h1 h2
theorem told_of {z : Nat → Int} (h : FPath 1 z0 z1 es z) (hz : z i = y) : FPath 1 z0 z1 (toldEs es i y) (fun j => if j ≤ i then z j else z (j - 1)) := by
  obtain ⟨s1, s2⟩ := tell_shown h1 h2
  refine ⟨fun e he => ?_, fun j e he => ?_, fun j e he => ?_⟩
  · rw [told_lo hi y (Nat.zero_le _)] at he
    rw [if_pos (Nat.zero_le _)]
    exact h.first e he
  · try dsimp only
    by_cases hj : j + 1 ≤ i
    · rw [told_lo hi y hj] at he
      rw [if_pos (by omega), if_pos hj]
      exact h.next j e he
    · by_cases hji : j = i
      · subst hji
        rw [told_at hi] at he
        obtain rfl := Option.some.inj he
        rw [if_pos (Nat.le_refl _), if_neg (by omega), Nat.add_sub_cancel]
        unfold tell
        dsimp only
        omega
      · rw [told_hi hi y (by omega)] at he
        rw [if_neg (by omega), if_neg (by omega), Nat.add_sub_cancel]
        have := h.next (j - 1) e (by rw [show j - 1 + 1 = j by omega]; exact he)
        rwa [show j - 1 + 1 = j by omega] at this
  · try dsimp only
    by_cases hj : j ≤ i
    · rw [told_lo hi y hj] at he
      rw [if_pos hj]
      exact h.at_ j e he
    · rw [if_neg hj]
      by_cases hji : j = i + 1
      · subst hji
        rw [told_at hi] at he
        obtain rfl := Option.some.inj he
        rw [Nat.add_sub_cancel, hz, s1, s2]
        omega
      · obtain ⟨k, rfl⟩ : ∃ k, j = k + 1 := ⟨j - 1, by omega⟩
        rw [told_hi hi y (by omega)] at he
        rw [Nat.add_sub_cancel]
        exact h.at_ k e he
theorem told_to {z : Nat → Int} (h : FPath 1 z0 z1 (toldEs es i y) z) : FPath 1 z0 z1 es (fun j => if j ≤ i then z j else z (j + 1)) ∧ z i = y ∧ z (i + 1) = y := by
  obtain ⟨s1, s2⟩ := tell_shown h1 h2
  have a := h.at_ _ _ (told_at hi y)
  have b := h.next _ _ (told_at hi y)
  rw [s1, s2] at a
  have b' : z i + 0 ≤ z (i + 1) ∧ z (i + 1) ≤ z i + 0 := b
  refine ⟨⟨fun e he => ?_, fun j e he => ?_, fun j e he => ?_⟩, by omega, by omega⟩
  · rw [if_pos (Nat.zero_le _)]
    exact h.first e (by rw [told_lo hi y (Nat.zero_le _)]; exact he)
  · try dsimp only
    by_cases hj : j + 1 ≤ i
    · rw [if_pos (by omega), if_pos hj]
      exact h.next j e (by rw [told_lo hi y hj]; exact he)
    · have hn := h.next (j + 1) e (by rw [told_hi hi y (by omega)]; exact he)
      by_cases hji : j = i
      · subst hji
        rw [if_pos (Nat.le_refl _), if_neg (by omega)]
        omega
      · rw [if_neg (by omega), if_neg (by omega)]
        exact hn
  · try dsimp only
    by_cases hj : j ≤ i
    · rw [if_pos hj]
      exact h.at_ j e (by rw [told_lo hi y hj]; exact he)
    · rw [if_neg hj]
      exact h.at_ (j + 1) e (by rw [told_hi hi y (by omega)]; exact he)
omit hi h1 h2 in
theorem mem_sh {F : List Int} (j : Nat) : ((j : Int) ∈ F.map (shOne i) ↔ (j ≤ i ∧ (j : Int) ∈ F) ∨ (i + 1 < j ∧ ((j - 1 : Nat) : Int) ∈ F)) := by
  constructor
  · intro h
    obtain ⟨x, hx, hs⟩ := List.mem_map.1 h
    unfold shOne at hs
    split at hs
    · refine .inr ⟨by omega, ?_⟩
      rw [show ((j - 1 : Nat) : Int) = x by omega]; exact hx
    · refine .inl ⟨by omega, ?_⟩
      rw [← hs]; exact hx
  · rintro (⟨a, b⟩ | ⟨a, b⟩)
    · exact List.mem_map.2 ⟨_, b, by unfold shOne; rw [if_neg (by omega)]⟩
    · exact List.mem_map.2 ⟨_, b, by unfold shOne; rw [if_pos (by omega)]; omega⟩
omit h1 h2 in
theorem told_wtc (F B : List Int) (x : Int) : (∀ j, j ≤ i → wtc 1 (toldEs es i y) (F.map (shOne i)) (B.map (shOne i)) j x = wtc 1 es F B j x) ∧ (wtc 1 (toldEs es i y) (F.map (shOne i)) (B.map (shOne i)) (i + 1) x = (0, 0)) ∧ (∀ j, i < j → wtc 1 (toldEs es i y) (F.map (shOne i)) (B.map (shOne i)) (j + 1) x = wtc 1 es F B j x) := by
  have mF := fun j => mem_sh (i := i) (F := F) j
  have mB := fun j => mem_sh (i := i) (F := B) j
  refine ⟨fun j hj => ?_, ?_, fun j hj => ?_⟩
  · unfold wtc
    rw [told_lo hi y hj]
    have a : (j : Int) ∈ F.map (shOne i) ↔ (j : Int) ∈ F := by rw [mF]; constructor; (rintro (h | h); exact h.2; omega); exact fun h => .inl ⟨hj, h⟩
    have b : (j : Int) ∈ B.map (shOne i) ↔ (j : Int) ∈ B := by rw [mB]; constructor; (rintro (h | h); exact h.2; omega); exact fun h => .inl ⟨hj, h⟩
    cases es[j]? with
    | none => rfl
    | some v =>
      dsimp only
      unfold wgt
      simp only [List.contains_eq_mem, decide_eq_true_eq, a, b]
  · unfold wtc
    rw [told_at hi]
    have a : ¬ ((i + 1 : Nat) : Int) ∈ F.map (shOne i) := by rw [mF]; rintro (h | h) <;> omega
    have b : ¬ ((i + 1 : Nat) : Int) ∈ B.map (shOne i) := by rw [mB]; rintro (h | h) <;> omega
    dsimp only
    unfold wgt
    simp only [List.contains_eq_mem, decide_eq_true_eq]
    rw [if_neg b, if_neg a]
    split <;> rfl
  · unfold wtc
    rw [told_hi hi y hj]
    have a : ((j + 1 : Nat) : Int) ∈ F.map (shOne i) ↔ (j : Int) ∈ F := by rw [mF, Nat.add_sub_cancel]; constructor; (rintro (h | h); omega; exact h.2); exact fun h => .inr ⟨by omega, h⟩
    have b : ((j + 1 : Nat) : Int) ∈ B.map (shOne i) ↔ (j : Int) ∈ B := by rw [mB, Nat.add_sub_cancel]; constructor; (rintro (h | h); omega; exact h.2); exact fun h => .inr ⟨by omega, h⟩
    cases es[j]? with
    | none => rfl
    | some v =>
      dsimp only
      unfold wgt
      simp only [List.contains_eq_mem, decide_eq_true_eq, a, b]
omit h1 h2 in
theorem told_sum (F B : List Int) (z z' : Nat → Int) (hl : ∀ j, j ≤ i → z' j = z j) (hh : ∀ j, i < j → z' (j + 1) = z j) :
    sumLo (wtc 1 (toldEs es i y) (F.map (shOne i)) (B.map (shOne i))) 0 (es.length + 1) z' = sumLo (wtc 1 es F B) 0 es.length z ∧ sumHi (wtc 1 (toldEs es i y) (F.map (shOne i)) (B.map (shOne i))) 0 (es.length + 1) z' = sumHi (wtc 1 es F B) 0 es.length z := by
  have key : ∀ d, i + 1 + d ≤ es.length → sumLo (wtc 1 (toldEs es i y) (F.map (shOne i)) (B.map (shOne i))) 0 (i + 1 + d + 1) z' = sumLo (wtc 1 es F B) 0 (i + 1 + d) z ∧ sumHi (wtc 1 (toldEs es i y) (F.map (shOne i)) (B.map (shOne i))) 0 (i + 1 + d + 1) z' = sumHi (wtc 1 es F B) 0 (i + 1 + d) z := by
    intro d
    induction d with
    | zero =>
      intro _
      rw [Nat.add_zero, sumLo_back, sumHi_back, Nat.zero_add, (told_wtc hi F B _).2.1]
      refine ⟨?_, ?_⟩
      · rw [Int.add_zero]
        exact sumLo_congr fun j hj => by rw [Nat.zero_add, hl j (by omega), (told_wtc hi F B _).1 j (by omega)]
      · rw [Int.add_zero]
        exact sumHi_congr fun j hj => by rw [Nat.zero_add, hl j (by omega), (told_wtc hi F B _).1 j (by omega)]
    | succ d ih =>
      intro hd
      obtain ⟨a, b⟩ := ih (by omega)
      have e : i + 1 + (d + 1) = i + 1 + d + 1 := by omega
      rw [e, sumLo_back, sumHi_back, a, b, sumLo_back, sumHi_back, Nat.zero_add, Nat.zero_add, hh _ (by omega), (told_wtc hi F B _).2.2 _ (by omega)]
      exact ⟨rfl, rfl⟩
  have := key (es.length - (i + 1)) (by omega)
  rwa [show i + 1 + (es.length - (i + 1)) = es.length by omega] at this
end
/-- The told log has truths, and its net loads are those of the truths that have this zero. -/
theorem told_net {z0 z1 : Int} {es : List Ev} (h : LogOk 1 z0 z1 es) (hf : Fits 1 z0 z1 es es.length) (F B : List Int) {i : Nat} (hi : i < es.length) {y : Int} (h1 : (zst 1 z0 z1 es 0 i).1 ≤ y) (h2 : y ≤ (zst 1 z0 z1 es 0 i).2) (h' : LogOk 1 z0 z1 (toldEs es i y)) :
    Fits 1 z0 z1 (toldEs es i y) (toldEs es i y).length ∧ netOf 1 (toldEs es i y) (F.map (shOne i)) (B.map (shOne i)) (zst 1 z0 z1 (toldEs es i y) 0) (es.length + 1) =
      ((Tbe (wtc 1 es F B) (folc es (zst 1 z0 z1 es 0)) (zst 1 z0 z1 es 0) (es.length - 1) (ix i y)).1 + (Tab (wtc 1 es F B) (folc es (zst 1 z0 z1 es 0)) (zst 1 z0 z1 es 0) es.length es.length (ix i y)).1, (Tbe (wtc 1 es F B) (folc es (zst 1 z0 z1 es 0)) (zst 1 z0 z1 es 0) (es.length - 1) (ix i y)).2 + (Tab (wtc 1 es F B) (folc es (zst 1 z0 z1 es 0)) (zst 1 z0 z1 es 0) es.length es.length (ix i y)).2) := by
  have hg := zst_good h hf i hi
  have b1 : -200 ≤ y := by omega
  have b2 : y ≤ 200 := by omega
  have hT := through h hf F B i hi y h1 h2
  obtain ⟨p, ⟨hp, hpi⟩, _⟩ := hT.loAt
  have hf' := (told_of hi b1 b2 hp hpi).fits
  have hN := net_paths h' hf' (by rw [told_len hi]; omega) (F.map (shOne i)) (B.map (shOne i))
  rw [told_len hi] at hN
  refine ⟨hf', ?_⟩
  refine NetIs.uniq hN hT (fun z hz => ?_) (fun z hz => ?_)
  · obtain ⟨q, q1, q2⟩ := told_to hi b1 b2 hz
    have hs := told_sum hi (y := y) F B (fun j => if j ≤ i then z j else z (j + 1)) z (fun j hj => by rw [if_pos hj]) (fun j hj => by rw [if_neg (by omega)])
    exact ⟨_, ⟨q, by rw [if_pos (Nat.le_refl _)]; exact q1⟩, hs.1.symm, hs.2.symm⟩
  · have q := told_of hi b1 b2 hz.1 hz.2
    have hs := told_sum hi (y := y) F B z (fun j => if j ≤ i then z j else z (j - 1)) (fun j hj => by rw [if_pos hj]) (fun j hj => by rw [if_neg (by omega), Nat.add_sub_cancel])
    exact ⟨_, q, hs.1, hs.2⟩
theorem ldRng_ne {st : Int} {e : Ev} {z : Int} (h1 : sLo st e ≤ z) (h2 : z ≤ sHi st e) (h3 : 1 ≤ st) (hl : ldLo e.kd e.ld ≤ ldHi e.kd e.ld) : (ldRng st e z).1 ≤ (ldRng st e z).2 := by
  unfold sLo sHi at *
  unfold ldRng
  dsimp only
  omega
theorem ld_le {e : Ev} (h : EvOk e) : ldLo e.kd e.ld ≤ ldHi e.kd e.ld := by
  obtain ⟨kd, _, _, _, _, _, _, _, _⟩ := h
  unfold ldLo ldHi
  rcases kd with k | k | k <;> rw [k] <;> simp
theorem wide_pos {z0 z1 : Int} {es : List Ev} (h : LogOk 1 z0 z1 es) (hf : Fits 1 z0 z1 es es.length) (F B : List Int) {i : Nat} (hi : i < es.length) {y : Int} (h1 : (zst 1 z0 z1 es 0 i).1 ≤ y) (h2 : y ≤ (zst 1 z0 z1 es 0 i).2) :
    0 ≤ wideOf (Tbe (wtc 1 es F B) (folc es (zst 1 z0 z1 es 0)) (zst 1 z0 z1 es 0) (es.length - 1)) (Tab (wtc 1 es F B) (folc es (zst 1 z0 z1 es 0)) (zst 1 z0 z1 es 0) es.length es.length) i y ∧ wideOf (Tbe (wtc 1 es F B) (folc es (zst 1 z0 z1 es 0)) (zst 1 z0 z1 es 0) (es.length - 1)) (Tab (wtc 1 es F B) (folc es (zst 1 z0 z1 es 0)) (zst 1 z0 z1 es 0) es.length es.length) i y ≤ 2800000 := by
  have hT := through h hf F B i hi y h1 h2
  obtain ⟨p, ⟨hp, hpi⟩, e1⟩ := hT.loAt
  obtain ⟨q, ⟨hq, hqi⟩, e2⟩ := hT.hiAt
  have a := hT.hi p ⟨hp, hpi⟩
  have b1 := sum_bd (wtc_bd h F B) 0 p es.length
  have b2 := sum_bd (wtc_bd h F B) 0 q es.length
  have h14 := h.n
  have le : ∀ n, n ≤ es.length → sumLo (wtc 1 es F B) 0 n p ≤ sumHi (wtc 1 es F B) 0 n p := by
    intro n
    induction n with
    | zero => intro _; unfold sumLo sumHi; simp
    | succ n ih =>
      intro hn
      have hv := List.getElem?_eq_getElem (show n < es.length by omega)
      have s := hp.at_ n _ hv
      have r := ldRng_ne s.1 s.2 (Int.le_refl _) (ld_le (h.ev _ (List.getElem_mem (show n < es.length by omega))))
      have := ih (by omega)
      have hw : (wtc 1 es F B n (p n)).1 ≤ (wtc 1 es F B n (p n)).2 := by
        unfold wtc
        rw [hv]
        dsimp only
        split
        · unfold wgt
          split
          · dsimp only; omega
          · split
            · exact r
            · exact Int.le_refl _
        · exact Int.le_refl _
      rw [sumLo_back, sumHi_back, Nat.zero_add]
      omega
  have l := le es.length (Nat.le_refl _)
  unfold wideOf
  dsimp only at e1 e2 a
  omega
/-- The first one of those that are least. -/
theorem bst_spec (L : Nat → Int) (d : Int) : ∀ n : Nat, 1 ≤ n → (∀ k, k < n → L k + d < 1073741824) → ∃ b : Nat, b < n ∧ bst L d n = ((b : Int), L b + d) ∧ (∀ k, k < b → L b + d < L k + d) ∧ ∀ k, k < n → L b + d ≤ L k + d := by
  intro n
  induction n with
  | zero => intro h; omega
  | succ n ih =>
    intro _ hL
    have hn := hL n (by omega)
    by_cases h0 : n = 0
    · subst h0
      refine ⟨0, by omega, ?_, fun k hk => by omega, fun k hk => by rw [show k = 0 by omega]; exact Int.le_refl _⟩
      rw [bst, bst, if_pos hn]
    · obtain ⟨b, hb, e, h1, h2⟩ := ih (by omega) fun k hk => hL k (by omega)
      rw [bst, e]
      dsimp only
      by_cases hlt : L n + d < L b + d
      · rw [if_pos hlt]
        refine ⟨n, by omega, rfl, fun k hk => ?_, fun k hk => ?_⟩
        · have := h2 k hk; omega
        · by_cases hkn : k < n
          · have := h2 k hkn; omega
          · rw [show k = n by omega]; exact Int.le_refl _
      · rw [if_neg hlt]
        refine ⟨b, by omega, rfl, h1, fun k hk => ?_⟩
        by_cases hkn : k < n
        · exact h2 k hkn
        · rw [show k = n by omega]; omega
/-- The most of some, from -1 on, with so much more for each. -/
def mostOf (g : Int → Int) (zs : List Int) : Int := zs.foldl (fun m z => max m (g z)) (-1)
theorem mostOf_snoc (g : Int → Int) (zs : List Int) (z : Int) : mostOf g (zs ++ [z]) = max (mostOf g zs) (g z) := by simp [mostOf]
theorem most_widest (T1 T2 : Nat → Int × Int) (e : Nat) (d : Int) (hd : 0 ≤ d) : ∀ zs : List Int, (∀ z ∈ zs, 0 ≤ wideOf T1 T2 e z) → mostOf (fun z => wideOf T1 T2 e z + d) zs = if zs = [] then -1 else widest T1 T2 e zs + d := by
  refine snoc_ind ?_ ?_
  · intro _; rfl
  · intro zs z ih h
    have hz := h z (by simp)
    have hne : ¬ zs ++ [z] = [] := by simp
    rw [mostOf_snoc, ih fun x hx => h x (by simp [hx]), widest_snoc, if_neg hne]
    by_cases h0 : zs = []
    · subst h0
      rw [if_pos rfl]
      have : widest T1 T2 e [] = 0 := rfl
      rw [this]
      omega
    · rw [if_neg h0]
      omega
end
open Go Go.RowKit
theorem tell_ck {y : Int} (h1 : -200 ≤ y) (h2 : y ≤ 200) : ckE 1 (tell y) = 0 := by
  unfold ckE tell
  dsimp only
  rw [if_neg (by omega), if_neg (by omega), if_neg (by simp [Int.tmod_one]), if_neg (by omega), if_neg (by simp)]
  exact ckR_ok (by omega) (by omega) (by omega)
theorem toldS_ck {z0 z1 : Int} {es : List Ev} {i : Nat} {y : Int} (hck : ckL 1 z0 z1 es = 0) (hi : i < es.length) (hn : es.length ≤ 13) (h1 : -200 ≤ y) (h2 : y ≤ 200) : ckL 1 z0 z1 (toldEs es i y) = 0 := by
  rw [ckL_iff] at hck ⊢
  obtain ⟨a, b, c, d, e⟩ := hck
  refine ⟨a, b, c, by rw [told_len hi]; omega, fun x hx => ?_⟩
  unfold toldEs at hx
  rcases List.mem_append.1 hx with hx | hx
  · exact e x (List.mem_of_mem_take hx)
  · rcases List.mem_cons.1 hx with rfl | hx
    · exact tell_ck h1 h2
    · exact e x (List.mem_of_mem_drop hx)
theorem sh_lt {i : Nat} {x y : Int} (h : x < y) : shOne i x < shOne i y := by unfold shOne; split <;> split <;> omega
theorem sh_inj {i : Nat} {x y : Int} (h : shOne i x = shOne i y) : x = y := by unfold shOne at h; split at h <;> split at h <;> omega
theorem sh_asc {i : Nat} {l : List Int} (h : l.Pairwise (· < ·)) : (l.map (shOne i)).Pairwise (· < ·) := by
  rw [List.pairwise_map]
  exact h.imp fun hab => sh_lt hab
theorem toldS_at {es l} {i : Nat} {y : Int} (hi : i < es.length) (hat : AtOk es es.length l) : AtOk (toldEs es i y) (toldEs es i y).length (l.map (shOne i)) := by
  refine ⟨sh_asc hat.asc, fun x hx => ?_⟩
  obtain ⟨u, hu, rfl⟩ := List.mem_map.1 hx
  obtain ⟨⟨a, b, c⟩, d⟩ := hat.mem u hu
  obtain ⟨m, rfl⟩ := Int.eq_ofNat_of_zero_le a
  have hl := told_len hi y
  unfold kdAt at c
  rw [Int.toNat_natCast] at c
  unfold shOne
  split
  · rename_i hlt
    refine ⟨⟨by omega, by omega, ?_⟩, by omega⟩
    unfold kdAt
    rw [show ((m : Int) + 1).toNat = m + 1 by omega, told_hi hi y (by omega)]
    exact c
  · rename_i hlt
    refine ⟨⟨by omega, by omega, ?_⟩, by omega⟩
    unfold kdAt
    rw [Int.toNat_natCast, told_lo hi y (by omega)]
    exact c
theorem toldS_sp {l F B : List Int} {a j i : Nat} (h : SpOk l a j F B) : SpOk (l.map (shOne i)) a j (F.map (shOne i)) (B.map (shOne i)) :=
  ⟨sh_asc h.fa, sh_asc h.ba, fun x hx => by
    obtain ⟨u, hu, rfl⟩ := List.mem_map.1 hx
    rw [← List.map_take]
    exact List.mem_map_of_mem (h.fm u hu), fun x hx => by
    obtain ⟨u, hu, rfl⟩ := List.mem_map.1 hx
    rw [← List.map_take]
    exact List.mem_map_of_mem (h.bm u hu), by rw [List.length_map]; exact h.fl, by rw [List.length_map]; exact h.bl, fun x hx hb => by
    obtain ⟨u, hu, rfl⟩ := List.mem_map.1 hx
    obtain ⟨v, hv, he⟩ := List.mem_map.1 hb
    rw [sh_inj he] at hv
    exact h.ap u hu hv⟩
/-- Of the first numbers of a list, each one that is greater is one more. -/
def shK (i : Nat) (F : List Int) (j : Nat) : List Int := (F.take j).map (shOne i) ++ F.drop j
theorem shK_zero (i : Nat) (F : List Int) : shK i F 0 = F := by simp [shK]
theorem shK_all (i : Nat) (F : List Int) : shK i F F.length = F.map (shOne i) := by simp [shK]
theorem shK_len (i : Nat) (F : List Int) (j : Nat) : (shK i F j).length = F.length := by simp [shK]; omega
theorem shK_at {i : Nat} {F : List Int} {j : Nat} (hj : j < F.length) : (shK i F j)[j]? = some F[j] := by
  unfold shK
  rw [List.getElem?_append_right (by simp; omega), List.length_map, List.length_take, show j - min j F.length = 0 by omega, List.getElem?_drop, Nat.add_zero, List.getElem?_eq_getElem hj]
theorem shK_next {i : Nat} {F : List Int} {j : Nat} (hj : j < F.length) : shK i F (j + 1) = (shK i F j).set j (shOne i F[j]) := by
  have hl : ((F.take j).map (shOne i)).length = j := by simp; omega
  unfold shK
  rw [List.take_succ_eq_append_getElem hj, List.map_append, List.set_append_right _ _ (by omega), hl, Nat.sub_self, List.drop_eq_getElem_cons hj, List.set_cons_zero]
  simp
theorem shK_same {i : Nat} {F : List Int} {j : Nat} (hj : j < F.length) (h : ¬ (i : Int) < F[j]) : shK i F (j + 1) = shK i F j := by
  rw [shK_next hj]
  unfold shOne
  rw [if_neg h]
  refine List.ext_getElem? fun m => ?_
  rw [List.getElem?_set]
  split
  · rename_i h1
    subst h1
    rw [shK_at hj, if_pos (by rw [shK_len]; exact hj)]
  · rfl
/-- The rows of a slip, of one's own. -/
structure SlipAt (b : Nat) (w : World) (FA : Option Addr) (fn fc : Nat) (BA : Option Addr) (bn bc : Nat) (F B : List Int) : Prop where
  of : w.ownsRow b 3 1 (.slice FA fn fc) fn (ints F).flatten
  ob : w.ownsRow b 3 1 (.slice BA bn bc) bn (ints B).flatten
  ap : Ap (.slice FA fn fc) (.slice BA bn bc)
theorem SlipAt.bel {b : Nat} {w x : World} {FA : Option Addr} {fn fc : Nat} {BA : Option Addr} {bn bc : Nat} {F B : List Int} (h : SlipAt b w FA fn fc BA bn bc F B) (hb : Below w.heap.size w x) : SlipAt b x FA fn fc BA bn bc F B := ⟨own_bel h.of hb, own_bel h.ob hb, h.ap⟩
set_option maxRecDepth 100000 in
set_option maxHeartbeats 4000000 in
theorem copySlip_any (FA : Option Addr) (fn fc : Nat) (BA : Option Addr) (bn bc : Nat) (fs bs d0 d1 : Int) (F B : List Int) (w : World) (hf1 : fn ≤ 1000) (hb1 : bn ≤ 1000) (hfn : F.length = fn) (hbn : B.length = bn) (hF : Sl w w.heap.size 1 FA (ints F)) (hB : Sl w w.heap.size 1 BA (ints B)) :
    Calls Try.prog 28 #[.agg #[.slice FA fn fc, .slice BA bn bc, .int .i64 fs, .int .i64 bs, .int .i64 d0, .int .i64 d1]] w fun e w' => (∃ (FA2 : Option Addr) (fc2 : Nat) (BA2 : Option Addr) (bc2 : Nat), e = .returned (.agg #[.slice FA2 fn fc2, .slice BA2 bn bc2, .int .i64 fs, .int .i64 bs, .int .i64 d0, .int .i64 d1]) ∧ SlipAt w.heap.size w' FA2 fn fc2 BA2 bn bc2 F B) ∧ Below w.heap.size w w' := by
  have HFN := Lib.hid hfn
  have HBN := Lib.hid hbn
  clear hfn hbn
  have hB0 : Below w.heap.size w ((w.alloc (.cells #[.slice FA fn fc, .slice BA bn bc, .int .i64 fs, .int .i64 bs, .int .i64 d0, .int .i64 d1] 50)).alloc (.cells #[.slice none 0 0, .slice none 0 0, .int .i64 0, .int .i64 0, .int .i64 0, .int .i64 0] 50)) := ((Below.refl _ _).alloc (Nat.le_refl _) _).alloc (by simp) _
  have kx0 := (Bx.new w 50 #[.slice FA fn fc, .slice BA bn bc, .int .i64 fs, .int .i64 bs, .int .i64 d0, .int .i64 d1]).alloc (.cells #[.slice none 0 0, .slice none 0 0, .int .i64 0, .int .i64 0, .int .i64 0, .int .i64 0] 50)
  have kr0 := Bx.at (w.alloc (.cells #[.slice FA fn fc, .slice BA bn bc, .int .i64 fs, .int .i64 bs, .int .i64 d0, .int .i64 d1] 50)) 50 #[.slice none 0 0, .slice none 0 0, .int .i64 0, .int .i64 0, .int .i64 0, .int .i64 0] (n := w.heap.size + 1) (by simp)
  have hFV := (Sl.below hF hB0).more hB0.size
  have hBV := (Sl.below hB hB0).more hB0.size
  have HB0 := Lib.hid hB0
  have KX0 := Lib.hid kx0
  have KR0 := Lib.hid kr0
  clear hB0 kx0 kr0
  go_enter Try.func28, Try.ntmps28
  go_upto_region 1 with fail
  have hB0 := HB0.out
  have kx := KX0.out
  have kr := KR0.out
  clear HB0 KX0 KR0 hF hB
  obtain ⟨V, hV⟩ : ∃ V, (w.alloc (.cells #[.slice FA fn fc, .slice BA bn bc, .int .i64 fs, .int .i64 bs, .int .i64 d0, .int .i64 d1] 50)).alloc (.cells #[.slice none 0 0, .slice none 0 0, .int .i64 0, .int .i64 0, .int .i64 0, .int .i64 0] 50) = V := ⟨_, rfl⟩
  rw [hV] at hFV hBV hB0 kx kr ⊢
  obtain ⟨b, hb⟩ : ∃ b, w.heap.size = b := ⟨_, rfl⟩
  have hbV : b + 1 < V.heap.size := by rw [← hV, ← hb]; simp
  have hwb : b ≤ w.heap.size := by omega
  have hwb2 : w.heap.size ≤ b := by omega
  rw [hb] at kx kr hB0 ⊢
  clear hV hb
  refine AnyG.startC (by kernel_rfl) ?_
  refine AnyG.takeP (i := 0) (v := ?_) rfl (by kernel_rfl) (fun _ _ _ h => h) rfl ?_ ?_
  rotate_left
  · (intro w'; go_simp; try with_reducible rfl)
  try simp only [Act.put, List.getElem_toArray, List.getElem_cons_succ, List.getElem_cons_zero, List.setIfInBounds_toArray, List.set_cons_zero, List.set_cons_succ]
  refine AnyG.takeP (i := 3) (v := ?_) rfl (by kernel_rfl) (fun _ _ _ h => h) rfl ?_ ?_
  rotate_left
  · (intro w'; go_simp; try with_reducible rfl)
  try simp only [Act.put, List.getElem_toArray, List.getElem_cons_succ, List.getElem_cons_zero, List.setIfInBounds_toArray, List.set_cons_zero, List.set_cons_succ]
  refine AnyG.enter (fun w' : World => Below b w w' ∧ Bx w' b 50 #[.slice FA fn fc, .slice BA bn bc, .int .i64 fs, .int .i64 bs, .int .i64 d0, .int .i64 d1] ∧ Bx w' (b + 1) 50 #[.slice none 0 0, .slice none 0 0, .int .i64 0, .int .i64 0, .int .i64 0, .int .i64 0] ∧ Below V.heap.size V w') (fun i => i != 9 && i != 8 && i != 7) ?_
  have hS : (fun w' : World => Below b w w' ∧ Bx w' b 50 #[.slice FA fn fc, .slice BA bn bc, .int .i64 fs, .int .i64 bs, .int .i64 d0, .int .i64 d1] ∧ Bx w' (b + 1) 50 #[.slice none 0 0, .slice none 0 0, .int .i64 0, .int .i64 0, .int .i64 0, .int .i64 0] ∧ Below V.heap.size V w') (World.drew _) := ⟨hB0.drew, kx.drew, kr.drew, (Below.refl _ _).drew⟩
  refine AnyG.takeC (i := 1) (v := ?_) rfl (by kernel_rfl) (fun _ _ _ h => h) rfl ?_ hS ?_
  rotate_left
  · (intro w' hSw; (try dsimp only at hSw); obtain ⟨x0, x1, x2, x3, x4, x5, xf, xz⟩ := hSw.2.1.six; go_simp; try with_reducible rfl)
  try simp only [Act.put, List.getElem_toArray, List.getElem_cons_succ, List.getElem_cons_zero, List.setIfInBounds_toArray, List.set_cons_zero, List.set_cons_succ]
  refine AnyG.takeC (i := 4) (v := ?_) rfl (by kernel_rfl) (fun _ _ _ h => h) rfl ?_ hS ?_
  rotate_left
  · (intro w' hSw; (try dsimp only at hSw); obtain ⟨x0, x1, x2, x3, x4, x5, xf, xz⟩ := hSw.2.1.six; go_simp; try with_reducible rfl)
  try simp only [Act.put, List.getElem_toArray, List.getElem_cons_succ, List.getElem_cons_zero, List.setIfInBounds_toArray, List.set_cons_zero, List.set_cons_succ]
  refine AnyG.one (i := 2) (by kernel_rfl) rfl rfl ?_
  go_simp
  refine (ints_any FA fn fc F _ hf1 HFN.out ((hFV.below hS.2.2.2).more hS.2.2.2.size)).mono ?_
  rintro er y2 ⟨⟨FA2, fc2, rfl, hoF⟩, hq2⟩
  have hsz2 := Nat.le_trans hwb hS.1.size
  refine Onward.on ⟨hS.1.trans (hq2.mono (Nat.le_trans hwb hS.1.size)), hS.2.1.call hq2, hS.2.2.1.call hq2, hS.2.2.2.trans (hq2.mono hS.2.2.2.size)⟩ (fun hS2 => ?_)
  clear hS
  have hS := hS2
  clear hS2
  try simp only [Act.put, List.getElem_toArray, List.getElem_cons_succ, List.getElem_cons_zero, List.setIfInBounds_toArray, List.set_cons_zero, List.set_cons_succ]
  refine AnyG.takeC (i := 6) (v := ?_) rfl (by kernel_rfl) (fun _ _ _ h => h) rfl ?_ hS ?_
  rotate_left
  · (intro w' hSw; (try dsimp only at hSw); go_simp; try with_reducible rfl)
  try simp only [Act.put, List.getElem_toArray, List.getElem_cons_succ, List.getElem_cons_zero, List.setIfInBounds_toArray, List.set_cons_zero, List.set_cons_succ]
  refine AnyG.one (i := 5) (by kernel_rfl) rfl rfl ?_
  go_simp
  refine (ints_any BA bn bc B _ hb1 HBN.out ((hBV.below hS.2.2.2).more hS.2.2.2.size)).mono ?_
  rintro er y5 ⟨⟨BA2, bc2, rfl, hoB⟩, hq5⟩
  have hsz5 := Nat.le_trans hwb hS.1.size
  have hoF5 := own_bel hoF hq5
  have hap : Ap (.slice FA2 fn fc2) (.slice BA2 bn bc2) := by
    by_cases h0 : (Value.slice FA2 fn fc2).ownBlock = none
    · exact .inl h0
    · refine .inr fun h => ?_
      obtain ⟨k, hk⟩ := Option.ne_none_iff_exists'.1 h0
      have a1 := (hoF.lt k hk).2
      have a2 := (hoB.lt k (by rw [← h]; exact hk)).1
      omega
  refine Onward.on ⟨hS.1.trans (hq5.mono (Nat.le_trans hwb hS.1.size)), hS.2.1.call hq5, hS.2.2.1.call hq5, hS.2.2.2.trans (hq5.mono hS.2.2.2.size)⟩ (fun hS2 => ?_)
  clear hS
  have hS := hS2
  clear hS2
  try simp only [Act.put, List.getElem_toArray, List.getElem_cons_succ, List.getElem_cons_zero, List.setIfInBounds_toArray, List.set_cons_zero, List.set_cons_succ]
  refine AnyG.one (i := 7) (by kernel_rfl) rfl rfl ?_
  have kx5 := hS.2.1
  have kr5 := hS.2.2.1
  have hB5 := hS.1
  obtain ⟨x0, x1, x2, x3, x4, x5, xf, xz⟩ := kx5.six
  obtain ⟨r0, r1, r2, r3, r4, r5, rf, rz⟩ := kr5.six
  go_simp
  refine Onward.last rfl ?_
  try simp only [Act.put, List.getElem_toArray, List.getElem_cons_succ, List.getElem_cons_zero, List.setIfInBounds_toArray, List.set_cons_zero, List.set_cons_succ]
  refine AnyG.one (i := 8) (by kernel_rfl) rfl rfl ?_
  go_simp
  refine Onward.last rfl ?_
  try simp only [Act.put, List.getElem_toArray, List.getElem_cons_succ, List.getElem_cons_zero, List.setIfInBounds_toArray, List.set_cons_zero, List.set_cons_succ]
  refine AnyG.one (i := 9) (by kernel_rfl) rfl rfl ?_
  go_simp
  refine Onward.last rfl ?_
  try simp only [Act.put, List.getElem_toArray, List.getElem_cons_succ, List.getElem_cons_zero, List.setIfInBounds_toArray, List.set_cons_zero, List.set_cons_succ]
  refine AnyG.done (by kernel_rfl) ?_ _
  go_simp
  go_wp2_with fail
  have of6 := ownsRow_up (b' := b) hoF5 (fun q e => Nat.le_trans hsz2 (hoF5.lt q e).1)
  have ob6 := ownsRow_up (b' := b) hoB (fun q e => Nat.le_trans hsz5 (hoB.lt q e).1)
  have nf := own_bx of6 kx5 (by decide)
  have nb := own_bx ob6 kx5 (by decide)
  have mf := own_bx of6 kr5 (by decide)
  have mb := own_bx ob6 kr5 (by decide)
  have krF : Bx (World.setCell (World.setCell (World.setCell (World.setCell (World.setCell (World.setCell (World.setCell (World.setCell y5 ⟨b, 0, none⟩ (.slice FA2 fn fc2)) ⟨b, 1, none⟩ (.slice BA2 bn bc2)) ⟨b + 1, 0, none⟩ (.slice FA2 fn fc2)) ⟨b + 1, 1, none⟩ (.slice BA2 bn bc2)) ⟨b + 1, 2, none⟩ (.int .i64 fs)) ⟨b + 1, 3, none⟩ (.int .i64 bs)) ⟨b + 1, 4, none⟩ (.int .i64 d0)) ⟨b + 1, 5, none⟩ (.int .i64 d1)) (b + 1) 50 #[.slice FA2 fn fc2, .slice BA2 bn bc2, .int .i64 fs, .int .i64 bs, .int .i64 d0, .int .i64 d1] := by have := ((((((((kr5.far (p := ⟨b, 0, none⟩) (by simp) (.slice FA2 fn fc2)).far (p := ⟨b, 1, none⟩) (by simp) (.slice BA2 bn bc2)).set_ 0 (.slice FA2 fn fc2)).set_ 1 (.slice BA2 bn bc2)).set_ 2 (.int .i64 fs)).set_ 3 (.int .i64 bs)).set_ 4 (.int .i64 d0)).set_ 5 (.int .i64 d1)); simpa using this
  have ofF : World.ownsRow (World.setCell (World.setCell (World.setCell (World.setCell (World.setCell (World.setCell (World.setCell (World.setCell y5 ⟨b, 0, none⟩ (.slice FA2 fn fc2)) ⟨b, 1, none⟩ (.slice BA2 bn bc2)) ⟨b + 1, 0, none⟩ (.slice FA2 fn fc2)) ⟨b + 1, 1, none⟩ (.slice BA2 bn bc2)) ⟨b + 1, 2, none⟩ (.int .i64 fs)) ⟨b + 1, 3, none⟩ (.int .i64 bs)) ⟨b + 1, 4, none⟩ (.int .i64 d0)) ⟨b + 1, 5, none⟩ (.int .i64 d1)) b 3 1 (.slice FA2 fn fc2) fn (ints F).flatten := own_set (own_set (own_set (own_set (own_set (own_set (own_set (own_set of6 nf _) nf _) mf _) mf _) mf _) mf _) mf _) mf _
  have obF : World.ownsRow (World.setCell (World.setCell (World.setCell (World.setCell (World.setCell (World.setCell (World.setCell (World.setCell y5 ⟨b, 0, none⟩ (.slice FA2 fn fc2)) ⟨b, 1, none⟩ (.slice BA2 bn bc2)) ⟨b + 1, 0, none⟩ (.slice FA2 fn fc2)) ⟨b + 1, 1, none⟩ (.slice BA2 bn bc2)) ⟨b + 1, 2, none⟩ (.int .i64 fs)) ⟨b + 1, 3, none⟩ (.int .i64 bs)) ⟨b + 1, 4, none⟩ (.int .i64 d0)) ⟨b + 1, 5, none⟩ (.int .i64 d1)) b 3 1 (.slice BA2 bn bc2) bn (ints B).flatten := own_set (own_set (own_set (own_set (own_set (own_set (own_set (own_set ob6 nb _) nb _) mb _) mb _) mb _) mb _) mb _) mb _
  have hBF : Below b w (World.setCell (World.setCell (World.setCell (World.setCell (World.setCell (World.setCell (World.setCell (World.setCell y5 ⟨b, 0, none⟩ (.slice FA2 fn fc2)) ⟨b, 1, none⟩ (.slice BA2 bn bc2)) ⟨b + 1, 0, none⟩ (.slice FA2 fn fc2)) ⟨b + 1, 1, none⟩ (.slice BA2 bn bc2)) ⟨b + 1, 2, none⟩ (.int .i64 fs)) ⟨b + 1, 3, none⟩ (.int .i64 bs)) ⟨b + 1, 4, none⟩ (.int .i64 d0)) ⟨b + 1, 5, none⟩ (.int .i64 d1)) := Below.setCell (Below.setCell (Below.setCell (Below.setCell (Below.setCell (Below.setCell (Below.setCell (Below.setCell hB5 (Nat.le_refl b) _) (Nat.le_refl b) _) (Nat.le_succ b) _) (Nat.le_succ b) _) (Nat.le_succ b) _) (Nat.le_succ b) _) (Nat.le_succ b) _) (Nat.le_succ b) _
  obtain ⟨W, hW⟩ : ∃ W, (World.setCell (World.setCell (World.setCell (World.setCell (World.setCell (World.setCell (World.setCell (World.setCell y5 ⟨b, 0, none⟩ (.slice FA2 fn fc2)) ⟨b, 1, none⟩ (.slice BA2 bn bc2)) ⟨b + 1, 0, none⟩ (.slice FA2 fn fc2)) ⟨b + 1, 1, none⟩ (.slice BA2 bn bc2)) ⟨b + 1, 2, none⟩ (.int .i64 fs)) ⟨b + 1, 3, none⟩ (.int .i64 bs)) ⟨b + 1, 4, none⟩ (.int .i64 d0)) ⟨b + 1, 5, none⟩ (.int .i64 d1)) = W := ⟨_, rfl⟩
  rw [hW] at krF ofF obF hBF ⊢
  clear hW x0 x1 x2 x3 x4 x5 xf xz r0 r1 r2 r3 r4 r5 rf rz
  obtain ⟨r0, r1, r2, r3, r4, r5, rf, rz⟩ := krF.six
  refine bodyPost_ret (v := .agg #[.slice FA2 fn fc2, .slice BA2 bn bc2, .int .i64 fs, .int .i64 bs, .int .i64 d0, .int .i64 d1]) (by simp [results, Try.results28, go_sem, r0, r1, r2, r3, r4, r5]) rfl ⟨⟨FA2, fc2, BA2, bc2, rfl, ownsRow_up ofF (fun q e => Nat.le_trans hwb2 (ofF.lt q e).1), ownsRow_up obF (fun q e => Nat.le_trans hwb2 (obF.lt q e).1), hap⟩, by first | exact hBF | exact hBF.mono hwb2⟩
theorem evs_take {w : World} {B : Nat} {A : Option Addr} {es : List Ev} (h : EvsAt w B A es) (n : Nat) : EvsAt w B A (es.take n) := by
  unfold EvsAt at *
  rw [List.map_take]
  exact Sl.take h n
theorem SlipAt.gr {b b' n : Nat} {w x : World} {FA : Option Addr} {fn fc : Nat} {BA : Option Addr} {bn bc : Nat} {F B : List Int} {v : Value} {xs : List Value} (h : SlipAt b w FA fn fc BA bn bc F B) (ho : w.ownsRow b' 28 5 v n xs) (g : w.grownBy x v.ownBlock) : SlipAt b x FA fn fc BA bn bc F B := ⟨h.of.kept g (own_ne h.of ho (by decide)), h.ob.kept g (own_ne h.ob ho (by decide)), h.ap⟩
theorem SlipAt.al {b : Nat} {w : World} {FA : Option Addr} {fn fc : Nat} {BA : Option Addr} {bn bc : Nat} {F B : List Int} (h : SlipAt b w FA fn fc BA bn bc F B) (o : Obj) : SlipAt b (w.alloc o) FA fn fc BA bn bc F B := ⟨h.of.alloc o, h.ob.alloc o, h.ap⟩
theorem SlipAt.dr {b : Nat} {w : World} {FA : Option Addr} {fn fc : Nat} {BA : Option Addr} {bn bc : Nat} {F B : List Int} (h : SlipAt b w FA fn fc BA bn bc F B) : SlipAt b w.drew FA fn fc BA bn bc F B := ⟨h.of.drew, h.ob.drew, h.ap⟩
theorem SlipAt.set_ {b p : Nat} {w : World} {FA : Option Addr} {fn fc : Nat} {BA : Option Addr} {bn bc : Nat} {F B : List Int} {cs : Array Value} (h : SlipAt b w FA fn fc BA bn bc F B) (k : Bx w p 26 cs) (o : Nat) (u : Value) : SlipAt b (w.setCell ⟨p, o, none⟩ u) FA fn fc BA bn bc F B := ⟨own_set h.of (own_bx h.of k (by decide)) u, own_set h.ob (own_bx h.ob k (by decide)) u, h.ap⟩
theorem evs_drop {w : World} {B k EC : Nat} {ea : Addr} {es : List Ev} (h : EvsAt w B (some ea) es) (hl : es.length = k) (hk : k ≤ EC) (m : Nat) (hm : m ≤ k) : ∃ a2 : Addr, (if EC = m then some ea else some (ea.add (m * 5))) = some a2 ∧ ∀ j u, ((es.drop m).map Ev.cells).flatten[j]? = some u → w.cell? (a2.add j) = some u := by
  by_cases hE : EC = m
  · refine ⟨ea, if_pos hE, fun j u hu => ?_⟩
    rw [List.drop_eq_nil_of_le (by omega)] at hu
    simp at hu
  · refine ⟨ea.add (m * 5), if_neg hE, ?_⟩
    refine evs_cells (B := B) fun j r hr => ?_
    rw [List.map_drop, List.getElem?_drop] at hr
    obtain ⟨ad, h1, h2, h3⟩ := h (m + j) r hr
    simp only [Option.some.injEq] at h1
    subst h1
    refine ⟨_, rfl, by rw [add_block]; exact h2, ?_⟩
    rw [add_add, ← Nat.add_mul]
    exact h3
theorem evs_one (es : List Ev) : ∀ u ∈ (es.map Ev.cells).flatten, u.oneCell' = true := by
  intro u hu
  obtain ⟨r, hr, hur⟩ := List.mem_flatten.1 hu
  obtain ⟨e, _, rfl⟩ := List.mem_map.1 hr
  simp [Ev.cells] at hur
  rcases hur with rfl | rfl | rfl | rfl | rfl <;> simp [Value.oneCell']
/-- Between two rounds of told's loops. -/
structure TI (V : World) (p q i k C3 : Nat) (z0 z1 : Int) (A3 : Option Addr) (te : List Ev) (FA2 : Option Addr) (fn fc2 : Nat) (BA2 : Option Addr) (bn bc2 : Nat) (fs bs d0 d1 : Int) (F B : List Int) (j m : Nat) (wr : World) : Prop where
  kp : Bx wr p 26 #[.int .i64 1, .int .i64 z0, .int .i64 z1, .slice A3 (k + 1) C3]
  kq : Bx wr q 50 #[.slice FA2 fn fc2, .slice BA2 bn bc2, .int .i64 fs, .int .i64 bs, .int .i64 d0, .int .i64 d1]
  oe : wr.ownsRow V.heap.size 28 5 (.slice A3 (k + 1) C3) (k + 1) (te.map Ev.cells).flatten
  of : wr.ownsRow V.heap.size 3 1 (.slice FA2 fn fc2) fn (ints (shK i F j)).flatten
  ob : wr.ownsRow V.heap.size 3 1 (.slice BA2 bn bc2) bn (ints (shK i B m)).flatten
  ap : Ap (.slice FA2 fn fc2) (.slice BA2 bn bc2)
  hT : Below V.heap.size V wr
theorem ints_set (l : List Int) (j : Nat) (x : Int) : (ints l).flatten.set j (.int .i64 x) = (ints (l.set j x)).flatten := by rw [ints_flat, ints_flat, List.map_set]
theorem own_ne_some {w : World} {b b' n n' c : Nat} {e e' : TypeId} {s s' f : Nat} {v : Value} {xs ys : List Value} (h : w.ownsRow b e s (.slice (some ⟨f, 0, none⟩) n c) n xs) (h' : w.ownsRow b' e' s' v n' ys) (hne : e ≠ e') : some f ≠ v.ownBlock := by
  rcases own_ne h h' hne with h | h
  · cases h
  · exact h
section
variable {V : World} {p q i k C3 : Nat} {z0 z1 : Int} {A3 : Option Addr} {te : List Ev} {fn fc2 bn bc2 : Nat} {fs bs d0 d1 : Int} {F B : List Int} {j m f : Nat} {FA2 BA2 : Option Addr} {wr : World}
theorem TI.putF (I : TI V p q i k C3 z0 z1 A3 te (some ⟨f, 0, none⟩) fn fc2 BA2 bn bc2 fs bs d0 d1 F B j m wr) (hf : F.length = fn) (hj : j < F.length) (h : (i : Int) < F[j]) : TI V p q i k C3 z0 z1 A3 te (some ⟨f, 0, none⟩) fn fc2 BA2 bn bc2 fs bs d0 d1 F B (j + 1) m (wr.setCell ⟨f, j, none⟩ (.int .i64 (F[j] + 1))) := by
  refine ⟨I.kp.far (by simp; exact fun h => own_bx I.of I.kp (by decide) (by rw [h]; rfl)) _, I.kq.far (by simp; exact fun h => own_bx I.of I.kq (by decide) (by rw [h]; rfl)) _, own_set I.oe (own_ne_some I.of I.oe (by decide)) _, ?_, own_set I.ob (by rcases I.ap with h | h; (cases h); exact h) _, I.ap, I.hT.setCell (I.of.lt f rfl).1 _⟩
  have hsh : shOne i F[j] = F[j] + 1 := by unfold shOne; rw [if_pos h]
  rw [shK_next hj, hsh, ← ints_set]
  exact own_store I.of j _ (by omega)
theorem TI.putB (I : TI V p q i k C3 z0 z1 A3 te FA2 fn fc2 (some ⟨f, 0, none⟩) bn bc2 fs bs d0 d1 F B j m wr) (hb : B.length = bn) (hm : m < B.length) (h : (i : Int) < B[m]) : TI V p q i k C3 z0 z1 A3 te FA2 fn fc2 (some ⟨f, 0, none⟩) bn bc2 fs bs d0 d1 F B j (m + 1) (wr.setCell ⟨f, m, none⟩ (.int .i64 (B[m] + 1))) := by
  refine ⟨I.kp.far (by simp; exact fun h => own_bx I.ob I.kp (by decide) (by rw [h]; rfl)) _, I.kq.far (by simp; exact fun h => own_bx I.ob I.kq (by decide) (by rw [h]; rfl)) _, own_set I.oe (own_ne_some I.ob I.oe (by decide)) _, own_set I.of (by rcases I.ap.symm with h | h; (cases h); exact h) _, ?_, I.ap, I.hT.setCell (I.ob.lt f rfl).1 _⟩
  have hsh : shOne i B[m] = B[m] + 1 := by unfold shOne; rw [if_pos h]
  rw [shK_next hm, hsh, ← ints_set]
  exact own_store I.ob m _ (by omega)
end
set_option maxRecDepth 100000 in
set_option maxHeartbeats 8000000 in
theorem told_any (z0 z1 : Int) (EA : Option Addr) (k EC : Nat) (es : List Ev) (FA : Option Addr) (fn fc : Nat) (BA : Option Addr) (bn bc : Nat) (fs bs d0 d1 : Int) (F B : List Int) (i : Nat) (y : Int) (w : World) (hk : k ≤ 14) (hkc : k ≤ EC) (hel : es.length = k) (hi : i < k) (hE : EvsAt w w.heap.size EA es) (hf1 : fn ≤ 1000) (hb1 : bn ≤ 1000) (hfn : F.length = fn) (hbn : B.length = bn) (hF : Sl w w.heap.size 1 FA (ints F)) (hB : Sl w w.heap.size 1 BA (ints B)) (hFb : ∀ x ∈ F, -1000 ≤ x ∧ x ≤ 1000) (hBb : ∀ x ∈ B, -1000 ≤ x ∧ x ≤ 1000) :
    Calls Try.prog 51 #[.agg #[.int .i64 1, .int .i64 z0, .int .i64 z1, .slice EA k EC], .agg #[.slice FA fn fc, .slice BA bn bc, .int .i64 fs, .int .i64 bs, .int .i64 d0, .int .i64 d1], .int .i64 i, .int .i64 y] w fun e w' => (∃ (A2 : Option Addr) (c2 : Nat) (FA2 : Option Addr) (fc2 : Nat) (BA2 : Option Addr) (bc2 : Nat), e = .returned (.tuple #[.agg #[.int .i64 1, .int .i64 z0, .int .i64 z1, .slice A2 (k + 1) c2], .agg #[.slice FA2 fn fc2, .slice BA2 bn bc2, .int .i64 fs, .int .i64 bs, .int .i64 d0, .int .i64 d1]]) ∧ EvsAt w' w'.heap.size A2 (toldEs es i y) ∧ Sl w' w'.heap.size 1 FA2 (ints (F.map (shOne i))) ∧ Sl w' w'.heap.size 1 BA2 (ints (B.map (shOne i)))) ∧ Below w.heap.size w w' := by
  have HEL := Lib.hid hel
  have HFN := Lib.hid hfn
  have HBN := Lib.hid hbn
  clear hel hfn hbn
  obtain ⟨i3, hi3, hz3, hs3', iy3⟩ := info_parts info28
  have hB0 : Below w.heap.size w ((((w.alloc (.cells #[.int .i64 1, .int .i64 z0, .int .i64 z1, .slice EA k EC] 26)).alloc (.cells #[.slice FA fn fc, .slice BA bn bc, .int .i64 fs, .int .i64 bs, .int .i64 d0, .int .i64 d1] 50)).alloc (.cells #[.int .i64 0, .int .i64 0, .int .i64 0, .slice none 0 0] 26)).alloc (.cells #[.slice none 0 0, .slice none 0 0, .int .i64 0, .int .i64 0, .int .i64 0, .int .i64 0] 50)) := (((((Below.refl _ _).alloc (Nat.le_refl _) _).alloc (by simp) _).alloc (by simp; omega) _).alloc (by simp; omega) _)
  have k40 := (((Bx.new w 26 #[.int .i64 1, .int .i64 z0, .int .i64 z1, .slice EA k EC]).alloc (.cells #[.slice FA fn fc, .slice BA bn bc, .int .i64 fs, .int .i64 bs, .int .i64 d0, .int .i64 d1] 50)).alloc (.cells #[.int .i64 0, .int .i64 0, .int .i64 0, .slice none 0 0] 26)).alloc (.cells #[.slice none 0 0, .slice none 0 0, .int .i64 0, .int .i64 0, .int .i64 0, .int .i64 0] 50)
  have k50 := ((Bx.at (w.alloc (.cells #[.int .i64 1, .int .i64 z0, .int .i64 z1, .slice EA k EC] 26)) 50 #[.slice FA fn fc, .slice BA bn bc, .int .i64 fs, .int .i64 bs, .int .i64 d0, .int .i64 d1] (n := w.heap.size + 1) (by simp)).alloc (.cells #[.int .i64 0, .int .i64 0, .int .i64 0, .slice none 0 0] 26)).alloc (.cells #[.slice none 0 0, .slice none 0 0, .int .i64 0, .int .i64 0, .int .i64 0, .int .i64 0] 50)
  have k80 := (Bx.at ((w.alloc (.cells #[.int .i64 1, .int .i64 z0, .int .i64 z1, .slice EA k EC] 26)).alloc (.cells #[.slice FA fn fc, .slice BA bn bc, .int .i64 fs, .int .i64 bs, .int .i64 d0, .int .i64 d1] 50)) 26 #[.int .i64 0, .int .i64 0, .int .i64 0, .slice none 0 0] (n := w.heap.size + 1 + 1) (by simp)).alloc (.cells #[.slice none 0 0, .slice none 0 0, .int .i64 0, .int .i64 0, .int .i64 0, .int .i64 0] 50)
  have k90 := Bx.at (((w.alloc (.cells #[.int .i64 1, .int .i64 z0, .int .i64 z1, .slice EA k EC] 26)).alloc (.cells #[.slice FA fn fc, .slice BA bn bc, .int .i64 fs, .int .i64 bs, .int .i64 d0, .int .i64 d1] 50)).alloc (.cells #[.int .i64 0, .int .i64 0, .int .i64 0, .slice none 0 0] 26)) 50 #[.slice none 0 0, .slice none 0 0, .int .i64 0, .int .i64 0, .int .i64 0, .int .i64 0] (n := w.heap.size + 1 + 1 + 1) (by simp)
  have hEV := (Sl.below hE hB0).more hB0.size
  have hFV := (Sl.below hF hB0).more hB0.size
  have hBV := (Sl.below hB hB0).more hB0.size
  have HB0 := Lib.hid hB0
  have HKS := Lib.hid (And.intro (And.intro k40 k50) (And.intro k80 k90))
  clear hB0 k40 k50 k80 k90
  go_enter Try.func51, Try.ntmps51
  go_upto_region 1 with fail
  have hB0 := HB0.out
  obtain ⟨⟨k4, k5⟩, k8, k9⟩ := HKS.out
  clear HB0 HKS hF hB hE
  obtain ⟨V, hV⟩ : ∃ V, ((((w.alloc (.cells #[.int .i64 1, .int .i64 z0, .int .i64 z1, .slice EA k EC] 26)).alloc (.cells #[.slice FA fn fc, .slice BA bn bc, .int .i64 fs, .int .i64 bs, .int .i64 d0, .int .i64 d1] 50)).alloc (.cells #[.int .i64 0, .int .i64 0, .int .i64 0, .slice none 0 0] 26)).alloc (.cells #[.slice none 0 0, .slice none 0 0, .int .i64 0, .int .i64 0, .int .i64 0, .int .i64 0] 50)) = V := ⟨_, rfl⟩
  rw [hV] at hEV hFV hBV hB0 k4 k5 k8 k9 ⊢
  obtain ⟨b, hb⟩ : ∃ b, w.heap.size = b := ⟨_, rfl⟩
  have hbV : b + 1 + 1 + 1 < V.heap.size := by rw [← hV, ← hb]; simp
  have hwb : b ≤ w.heap.size := by omega
  have hwb2 : w.heap.size ≤ b := by omega
  rw [hb] at k4 k5 k8 k9 hB0 ⊢
  clear hV hb
  go_cut [10, 11] (fun v10 v11 wr => ∃ (p q : Nat) (FA2 : Option Addr) (fc2 : Nat) (BA2 : Option Addr) (bc2 : Nat), v10 = .pointer (some ⟨p, 0, none⟩) ∧ v11 = .pointer (some ⟨q, 0, none⟩) ∧ p ≠ q ∧ V.heap.size ≤ p ∧ V.heap.size ≤ q ∧ Bx wr p 26 #[.int .i64 1, .int .i64 z0, .int .i64 z1, .slice EA k EC] ∧ Bx wr q 50 #[.slice FA2 fn fc2, .slice BA2 bn bc2, .int .i64 fs, .int .i64 bs, .int .i64 d0, .int .i64 d1] ∧ SlipAt V.heap.size wr FA2 fn fc2 BA2 bn bc2 F B ∧ Below V.heap.size V wr)
  case first =>
    refine AnyG.start (fun w' : World => Below V.heap.size V w') (fun i => i != 5 && i != 6) (by kernel_rfl) ?_
    have hS : (fun w' : World => Below V.heap.size V w') (World.drew _) := (Below.refl _ _).drew
    refine AnyG.takeC (i := 0) (v := ?_) rfl (by kernel_rfl) (fun _ _ _ h => h) rfl ?_ hS ?_
    rotate_left
    · (intro w' hSw; (try dsimp only at hSw); obtain ⟨l0, l1, l2, l3, lf, lz⟩ := (k4.call hSw).four; go_simp; try with_reducible rfl)
    try simp only [Act.put, List.setIfInBounds_toArray, List.set_cons_zero, List.set_cons_succ]
    refine AnyG.takeC (i := 1) (v := ?_) rfl (by kernel_rfl) (fun _ _ _ h => h) rfl ?_ hS ?_
    rotate_left
    · (intro w' hSw; (try dsimp only at hSw); obtain ⟨s0, s1, s2, s3, s4, s5, sf, sz⟩ := (k5.call hSw).six; go_simp; try with_reducible rfl)
    try simp only [Act.put, List.setIfInBounds_toArray, List.set_cons_zero, List.set_cons_succ]
    refine RegRel.AnyG.rel2 [3, 4] [0, 1] [5, 6] [[], [], [], [], [], [2, 3, 4], [2, 3, 4, 5]] [(16, 2), (10, 3), (11, 4)] [(2, fun vs w1 => ∃ (FA2 : Option Addr) (fc2 : Nat) (BA2 : Option Addr) (bc2 : Nat), vs 2 = .agg #[.slice FA2 fn fc2, .slice BA2 bn bc2, .int .i64 fs, .int .i64 bs, .int .i64 d0, .int .i64 d1] ∧ SlipAt V.heap.size w1 FA2 fn fc2 BA2 bn bc2 F B), (3, fun vs w1 => ∃ g, vs 3 = .pointer (some ⟨g, 0, none⟩) ∧ V.heap.size ≤ g ∧ Bx w1 g 26 #[.int .i64 0, .int .i64 0, .int .i64 0, .slice none 0 0]), (4, fun vs w1 => ∃ g, vs 4 = .pointer (some ⟨g, 0, none⟩) ∧ V.heap.size ≤ g ∧ Bx w1 g 50 #[.slice none 0 0, .slice none 0 0, .int .i64 0, .int .i64 0, .int .i64 0, .int .i64 0])]
      (by kernel_rfl) (by kernel_rfl) (by kernel_rfl) (by kernel_rfl) (by decide) (by decide) (fun _ h => Below.trans ((Below.refl V.heap.size V).drew) h) ?hst ?hcg ?hstep ?hfin
    case hst => exact ⟨fun _ _ _ ⟨a, b, c, d, h1, h2⟩ hb => ⟨a, b, c, d, h1, h2.bel hb⟩, fun _ _ _ ⟨g, h1, h2, h3⟩ hb => ⟨g, h1, h2, h3.call hb⟩, fun _ _ _ ⟨g, h1, h2, h3⟩ hb => ⟨g, h1, h2, h3.call hb⟩, trivial⟩
    case hcg => exact ⟨fun _ _ _ he ⟨a, b, c, d, h1, h2⟩ => ⟨a, b, c, d, (he 2 (by simp)).trans h1, h2⟩, fun _ _ _ he ⟨g, h1, h2⟩ => ⟨g, (he 3 (by simp)).trans h1, h2⟩, fun _ _ _ he ⟨g, h1, h2⟩ => ⟨g, (he 4 (by simp)).trans h1, h2⟩, trivial⟩
    case hstep =>
      refine ⟨?_, ?_, ?_, trivial⟩
      · rintro vs v1 - hv
        refine ⟨_, _, rfl, rfl, ?_⟩
        clear hS
        simp only [RegRel.fillT, List.foldl_cons, List.foldl_nil, List.setIfInBounds_toArray, List.set_cons_zero, List.set_cons_succ]
        go_simp
        have hv2 : Below V.heap.size V v1 := ((Below.refl V.heap.size V).drew).trans hv
        refine (copySlip_any FA fn fc BA bn bc fs bs d0 d1 F B _ hf1 hb1 HFN.out HBN.out ((hFV.below hv2).more hv2.size) ((hBV.below hv2).more hv2.size)).mono ?_
        rintro rr v2 ⟨⟨FA2, fc2, BA2, bc2, rfl, hs2⟩, hb2⟩
        have hva : V.heap.size ≤ v1.heap.size := hv2.size
        have hs3 : SlipAt V.heap.size v2 FA2 fn fc2 BA2 bn bc2 F B := ⟨ownsRow_up hs2.of (fun q e => Nat.le_trans hva (hs2.of.lt q e).1), ownsRow_up hs2.ob (fun q e => Nat.le_trans hva (hs2.ob.lt q e).1), hs2.ap⟩
        first | exact ⟨⟨_, _, _, _, rfl, hs3⟩, hb2, rfl, fun h => absurd h (by decide)⟩ | exact ⟨⟨_, _, _, _, rfl, hs3⟩, hb2, fun h => absurd h (by decide)⟩ | exact ⟨⟨_, _, _, _, rfl, hs3⟩, hb2, rfl⟩ | exact ⟨⟨_, _, _, _, rfl, hs3⟩, hb2⟩ | trace_state
      · rintro vs v1 - hv
        refine ⟨_, _, rfl, rfl, ?_⟩
        clear hS
        simp only [RegRel.fillT, List.foldl_cons, List.foldl_nil, List.setIfInBounds_toArray, List.set_cons_zero, List.set_cons_succ]
        go_simp
        have hva : V.heap.size ≤ v1.heap.size := hv.size
        refine ⟨⟨_, rfl, ?_, Bx.new _ _ _⟩, (Below.refl _ _).alloc (Nat.le_refl _) _⟩
        omega
      · rintro vs v1 - hv
        refine ⟨_, _, rfl, rfl, ?_⟩
        clear hS
        simp only [RegRel.fillT, List.foldl_cons, List.foldl_nil, List.setIfInBounds_toArray, List.set_cons_zero, List.set_cons_succ]
        go_simp
        have hva : V.heap.size ≤ v1.heap.size := hv.size
        refine ⟨⟨_, rfl, ?_, Bx.new _ _ _⟩, (Below.refl _ _).alloc (Nat.le_refl _) _⟩
        omega
    case hfin =>
      rintro vs v1 ⟨⟨FA2, fc2, BA2, bc2, h2, hs2⟩, ⟨g3, h3, hg3, hx3⟩, ⟨g4, h4, hg4, hx4⟩, -⟩ hv hdist
      clear hS
      try dsimp only at h2 h3 h4
      have hne3_4 : g3 ≠ g4 := fun e => hdist 3 (by simp) 4 (by simp) (by decide) (by rw [h3, h4, e])
      clear hdist
      simp only [List.filter_cons, List.contains_cons, List.contains_nil, Nat.reduceBEq, Bool.or_false, Bool.not_false, if_true, List.filter_nil]
      simp only [RegRel.fillT, List.foldl_cons, List.foldl_nil, List.setIfInBounds_toArray, List.set_cons_zero, List.set_cons_succ]
      simp only [h2, h3, h4]
      clear h2 h3 h4
      have hvW : Below V.heap.size V v1 := ((Below.refl V.heap.size V).drew).trans hv
      obtain ⟨r0, r1, r2, r3, rf, rz⟩ := hx3.four
      obtain ⟨q0, q1, q2, q3, q4, q5, qf, qz⟩ := hx4.six
      refine RegRel.wpOps_go rfl rfl ?_
      go_simp
      refine RegRel.wpOps_go rfl rfl ?_
      go_simp
      refine RegRel.wpOps_end ?_
      go_simp
      clear r0 r1 r2 r3 rf rz q0 q1 q2 q3 q4 q5 qf qz
      have nf3 := own_bx hs2.of hx3 (by decide)
      have nb3 := own_bx hs2.ob hx3 (by decide)
      have nf4 := own_bx hs2.of hx4 (by decide)
      have nb4 := own_bx hs2.ob hx4 (by decide)
      go_wp2_with fail
      go_meet
      exact ⟨g3, g4, FA2, fc2, BA2, bc2, rfl, rfl, hne3_4, hg3, hg4, by have := ((((((((((hx3.set_ 0 (.int .i64 1)).set_ 1 (.int .i64 z0)).set_ 2 (.int .i64 z1)).set_ 3 (.slice EA k EC)).far (p := ⟨g4, 0, none⟩) hne3_4 (.slice FA2 fn fc2)).far (p := ⟨g4, 1, none⟩) hne3_4 (.slice BA2 bn bc2)).far (p := ⟨g4, 2, none⟩) hne3_4 (.int .i64 fs)).far (p := ⟨g4, 3, none⟩) hne3_4 (.int .i64 bs)).far (p := ⟨g4, 4, none⟩) hne3_4 (.int .i64 d0)).far (p := ⟨g4, 5, none⟩) hne3_4 (.int .i64 d1)); simpa using this, by have := ((((((((((hx4.far (p := ⟨g3, 0, none⟩) (Ne.symm hne3_4) (.int .i64 1)).far (p := ⟨g3, 1, none⟩) (Ne.symm hne3_4) (.int .i64 z0)).far (p := ⟨g3, 2, none⟩) (Ne.symm hne3_4) (.int .i64 z1)).far (p := ⟨g3, 3, none⟩) (Ne.symm hne3_4) (.slice EA k EC)).set_ 0 (.slice FA2 fn fc2)).set_ 1 (.slice BA2 bn bc2)).set_ 2 (.int .i64 fs)).set_ 3 (.int .i64 bs)).set_ 4 (.int .i64 d0)).set_ 5 (.int .i64 d1)); simpa using this, ⟨(own_set (own_set (own_set (own_set (own_set (own_set (own_set (own_set (own_set (own_set hs2.of nf3 _) nf3 _) nf3 _) nf3 _) nf4 _) nf4 _) nf4 _) nf4 _) nf4 _) nf4 _), (own_set (own_set (own_set (own_set (own_set (own_set (own_set (own_set (own_set (own_set hs2.ob nb3 _) nb3 _) nb3 _) nb3 _) nb4 _) nb4 _) nb4 _) nb4 _) nb4 _) nb4 _), hs2.ap⟩, (Below.setCell (Below.setCell (Below.setCell (Below.setCell (Below.setCell (Below.setCell (Below.setCell (Below.setCell (Below.setCell (Below.setCell hvW hg3 _) hg3 _) hg3 _) hg3 _) hg4 _) hg4 _) hg4 _) hg4 _) hg4 _) hg4 _)⟩
  case rest =>
    obtain ⟨p, q, FA2, fc2, BA2, bc2, rfl, rfl, hpq, hpV, hqV, kp, kq, hsl, hBr⟩ := hcut
    have k4c := k4.call hBr
    have hEc := hEV.below hBr
    have hVc := hBr.size
    have hBw := hB0.trans (hBr.mono (Nat.le_trans hwb hB0.size))
    obtain ⟨ea, rfl, hea, -⟩ := EvsAt.at_ (k := 0) hEc (by rw [HEL.out]; omega)
    have hEt : EvsAt wc V.heap.size (some ea) (es.take (i + 1)) := evs_take hEc (i + 1)
    have hlt : (es.take (i + 1)).length = i + 1 := by rw [List.length_take, HEL.out]; omega
    obtain ⟨xs, hxs⟩ : ∃ xs, ((es.take (i + 1)).map Ev.cells).flatten = xs := ⟨_, rfl⟩
    have hlen : xs.length = (i + 1) * 5 := by rw [← hxs, evs_flat, hlt]
    have h1c : ∀ u ∈ xs, u.oneCell' = true := by rw [← hxs]; exact evs_one _
    have hcs : ∀ j u, xs[j]? = some u → (wc.alloc (.cells #[] 28)).cell? (ea.add j) = some u := by rw [← hxs]; exact evs_cells (hEt.alloc hVc _)
    have how := World.ownsRow_made (w := wc) (base := V.heap.size) (e := 28) (size := 5) #[] 0 hVc (by unfold maxLen; omega) (by simp)
    have HXS := Lib.hid hxs
    have HLEN := Lib.hid hlen
    have H1C := Lib.hid h1c
    have HCS := Lib.hid hcs
    have hi1 : IntKind.i64.wrap ((i : Int) + 1) = (i : Int) + 1 := IntWalk.i64_in _ (by omega)
    have hiE : i + 1 ≤ EC := by omega
    have hiK : i + 1 ≤ k := by omega
    clear hxs hlen h1c hcs hEt hlt k5 hFV hBV
    have kp1 := kp.alloc (.cells #[] 28)
    have kq1 := kq.alloc (.cells #[] 28)
    have k41 := k4c.alloc (.cells #[] 28)
    have hT1 : Below V.heap.size V (wc.alloc (.cells #[] 28)) := hBr.alloc hVc _
    have hs1 : SlipAt V.heap.size (wc.alloc (.cells #[] 28)) FA2 fn fc2 BA2 bn bc2 F B := ⟨hsl.of.alloc _, hsl.ob.alloc _, hsl.ap⟩
    obtain ⟨l0, l1, l2, l3, lf, lz⟩ := k4c.four
    go_upto_region 3 with (first
      | (at_builtin; refine wpList_append_own _ rfl (.tmp 17) (.tmp 22) 24 rfl V.heap.size 28 i3 _ 5 40 Try.underlying24 hi3 hz3 hs3' iy3 rfl (by decide) (.slice (some ⟨wc.heap.size, 0, none⟩) 0 0) 0 [] rfl how ea (i + 1) EC xs rfl HLEN.out HCS.out H1C.out (by unfold maxLen; omega) (by omega) (by simp; omega) ?_; intro v' w1 o1 o2 o3; obtain ⟨A1, C1, rfl⟩ := own_shape o1; have o1' : w1.ownsRow V.heap.size 28 5 (.slice A1 (i + 1) C1) (i + 1) xs := (by simpa using o1); have o1a := o1'.alloc (.cells #[.int .i64 1, .int .i64 y, .int .i64 0, .int .i64 0, .int .i64 0] 28); have kp2 := (kp1.grown o2 (own_bx how kp1 (by decide))).alloc (.cells #[.int .i64 1, .int .i64 y, .int .i64 0, .int .i64 0, .int .i64 0] 28); have kq2 := (kq1.grown o2 (own_bx how kq1 (by decide))).alloc (.cells #[.int .i64 1, .int .i64 y, .int .i64 0, .int .i64 0, .int .i64 0] 28); have k42 := (k41.grown o2 (own_bx how k41 (by decide))).alloc (.cells #[.int .i64 1, .int .i64 y, .int .i64 0, .int .i64 0, .int .i64 0] 28); have kb := Bx.new w1 28 #[.int .i64 1, .int .i64 y, .int .i64 0, .int .i64 0, .int .i64 0])
      | (at_builtin; refine wpList_append_own _ rfl (.tmp 23) (.tmp 26) 24 rfl V.heap.size 28 i3 _ 5 40 Try.underlying24 hi3 hz3 hs3' iy3 rfl (by decide) (.slice A1 (i + 1) C1) (i + 1) xs rfl o1a ⟨w1.heap.size, 0, none⟩ 1 1 [.int .i64 1, .int .i64 y, .int .i64 0, .int .i64 0, .int .i64 0] rfl rfl (bx_news kb) (by simp [Value.oneCell']) (by unfold maxLen; omega) (by omega) (by have := o2.size; simp at this ⊢; omega) ?_; intro v' w2 o4 o5 o6; obtain ⟨A2, C2, rfl⟩ := own_shape o4; have kp3 := kp2.grown o5 (own_bx o1a kp2 (by decide)); have kq3 := kq2.grown o5 (own_bx o1a kq2 (by decide)); have k43 := k42.grown o5 (own_bx o1a k42 (by decide)); obtain ⟨r0, r1, r2, r3, rf, rz⟩ := kp3.four)
      | fail)
    clear l0 l1 l2 l3 lf lz r0 r1 r2 r3 rf rz
    have hT2 := (hT1.grown o2 hT1.size (fun k e => (how.lt k e).1)).alloc (by have := hT1.size; have := o2.size; omega) (.cells #[.int .i64 1, .int .i64 y, .int .i64 0, .int .i64 0, .int .i64 0] 28)
    have hT3 := hT2.grown o5 hT2.size (fun k e => (o1a.lt k e).1)
    have hs3 := (((hs1.gr how o2).al (.cells #[.int .i64 1, .int .i64 y, .int .i64 0, .int .i64 0, .int .i64 0] 28)).gr o1a o5)
    have hbp : b ≠ p := by omega
    have hbq : b ≠ q := by omega
    have kp4 : Bx (World.setCell w2 ⟨p, 3, none⟩ (.slice A2 (i + 1 + 1) C2)) p 26 #[.int .i64 1, .int .i64 z0, .int .i64 z1, .slice A2 (i + 1 + 1) C2] := by have := kp3.set_ 3 (.slice A2 (i + 1 + 1) C2); simpa using this
    have kq4 := kq3.far (p := ⟨p, 3, none⟩) (Ne.symm hpq) (.slice A2 (i + 1 + 1) C2)
    have k44 := k43.far (p := ⟨p, 3, none⟩) hbp (.slice A2 (i + 1 + 1) C2)
    have o7 := own_set o4 (own_bx o4 kp3 (by decide)) (o := 3) (.slice A2 (i + 1 + 1) C2)
    have hs4 := hs3.set_ kp3 3 (.slice A2 (i + 1 + 1) C2)
    have hT4 : Below V.heap.size V (World.setCell w2 ⟨p, 3, none⟩ (.slice A2 (i + 1 + 1) C2)) := hT3.setCell hpV _
    obtain ⟨X, hX⟩ : ∃ X, (World.setCell w2 ⟨p, 3, none⟩ (.slice A2 (i + 1 + 1) C2)) = X := ⟨_, rfl⟩
    rw [hX] at kp4 kq4 k44 o7 hs4 hT4 ⊢
    clear hX hT1 hT2 hT3 hs1 hs3 kp kp1 kp2 kp3 kq kq1 kq2 kq3 k4c k41 k42 k43 o1 o1' o1a o2 o3 o4 o5 o6 how kb hsl hBr hEc HCS H1C HLEN
    have hEX : EvsAt X V.heap.size (some ea) es := hEV.below hT4
    have hlt2 : (es.drop (i + 1)).length = k - (i + 1) := by rw [List.length_drop, HEL.out]
    obtain ⟨a2, ha2, hc2⟩ := evs_drop hEX (HEL.out) hkc (i + 1) (by omega)
    obtain ⟨ys, hys⟩ : ∃ ys, ((es.drop (i + 1)).map Ev.cells).flatten = ys := ⟨_, rfl⟩
    rw [hys] at hc2
    have hyl : ys.length = (k - (i + 1)) * 5 := by rw [← hys, evs_flat, hlt2]
    have hy1 : ∀ u ∈ ys, u.oneCell' = true := by rw [← hys]; exact evs_one _
    have HYS := Lib.hid hys
    have HYL := Lib.hid hyl
    have HY1 := Lib.hid hy1
    have HC2 := Lib.hid hc2
    clear hys hyl hy1 hc2 hlt2 hEX
    go_upto_region 3 with fail
    refine AnyG.startC (by kernel_rfl) ?_
    refine AnyG.takeP (i := 0) (v := ?_) rfl (by kernel_rfl) (fun _ _ _ h => h) rfl ?_ ?_
    rotate_left
    · (intro w'; go_simp; try with_reducible rfl)
    try simp only [Act.put, List.getElem_toArray, List.getElem_cons_succ, List.getElem_cons_zero, List.setIfInBounds_toArray, List.set_cons_zero, List.set_cons_succ]
    refine AnyG.takeP (i := 2) (v := ?_) rfl (by kernel_rfl) (fun _ _ _ h => h) rfl ?_ ?_
    rotate_left
    · (intro w'; go_simp; try with_reducible rfl)
    try simp only [Act.put, List.getElem_toArray, List.getElem_cons_succ, List.getElem_cons_zero, List.setIfInBounds_toArray, List.set_cons_zero, List.set_cons_succ]
    refine AnyG.takeP (i := 4) (v := ?_) rfl (by kernel_rfl) (fun _ _ _ h => h) rfl ?_ ?_
    rotate_left
    · (intro w'; go_simp; try with_reducible rfl)
    try simp only [Act.put, List.getElem_toArray, List.getElem_cons_succ, List.getElem_cons_zero, List.setIfInBounds_toArray, List.set_cons_zero, List.set_cons_succ]
    refine AnyG.takeP (i := 5) (v := ?_) rfl (by kernel_rfl) (fun _ _ _ h => h) rfl ?_ ?_
    rotate_left
    · (intro w'; go_simp; try with_reducible rfl)
    try simp only [Act.put, List.getElem_toArray, List.getElem_cons_succ, List.getElem_cons_zero, List.setIfInBounds_toArray, List.set_cons_zero, List.set_cons_succ]
    refine AnyG.enter (fun w' : World => Bx w' p 26 #[.int .i64 1, .int .i64 z0, .int .i64 z1, .slice A2 (i + 1 + 1) C2] ∧ Bx w' b 26 #[.int .i64 1, .int .i64 z0, .int .i64 z1, .slice (some ea) k EC]) (fun i => i != 9) ?_
    have hS : (fun w' : World => Bx w' p 26 #[.int .i64 1, .int .i64 z0, .int .i64 z1, .slice A2 (i + 1 + 1) C2] ∧ Bx w' b 26 #[.int .i64 1, .int .i64 z0, .int .i64 z1, .slice (some ea) k EC]) (World.drew _) := ⟨kp4.drew, k44.drew⟩
    refine AnyG.takeC (i := 1) (v := ?_) rfl (by kernel_rfl) (fun _ _ _ h => h) rfl ?_ hS ?_
    rotate_left
    · (intro w' hSw; (try dsimp only at hSw); obtain ⟨r0, r1, r2, r3, rf, rz⟩ := hSw.1.four; go_simp; try with_reducible rfl)
    try simp only [Act.put, List.getElem_toArray, List.getElem_cons_succ, List.getElem_cons_zero, List.setIfInBounds_toArray, List.set_cons_zero, List.set_cons_succ]
    refine AnyG.takeC (i := 3) (v := ?_) rfl (by kernel_rfl) (fun _ _ _ h => h) rfl ?_ hS ?_
    rotate_left
    · (intro w' hSw; (try dsimp only at hSw); obtain ⟨l0, l1, l2, l3, lf, lz⟩ := hSw.2.four; go_simp; try with_reducible rfl)
    try simp only [Act.put, List.getElem_toArray, List.getElem_cons_succ, List.getElem_cons_zero, List.setIfInBounds_toArray, List.set_cons_zero, List.set_cons_succ]
    refine AnyG.takeC (i := 6) (v := ?_) rfl (by kernel_rfl) (fun _ _ _ h => h) rfl ?_ hS ?_
    rotate_left
    · (intro w' hSw; (try dsimp only at hSw); go_simp; rw [if_pos (show (0 : Int) ≤ ↑i + 1 ∧ (↑i : Int) + 1 ≤ ↑k by omega)])
    try simp only [Act.put, List.getElem_toArray, List.getElem_cons_succ, List.getElem_cons_zero, List.setIfInBounds_toArray, List.set_cons_zero, List.set_cons_succ]
    try rw [ha2]
    try simp only [ha2]
    refine AnyG.one (i := 7) (by kernel_rfl) rfl rfl ?_
    refine wp_app2 (.tmp 30) (.tmp 35) 24 rfl V.heap.size 28 i3 _ 5 40 Try.underlying24 hi3 hz3 hs3' iy3 rfl (by decide) (.slice A2 (i + 1 + 1) C2) (i + 1 + 1) (xs ++ [.int .i64 1, .int .i64 y, .int .i64 0, .int .i64 0, .int .i64 0]) (by simp [Act.eval]) o7.drew a2 (k - (i + 1)) (EC - (i + 1)) ys (by simp [Act.eval]) HYL.out HC2.out HY1.out (by unfold maxLen; omega) (by omega) hT4.size ?_
    intro v' w3 o8 o9 o10 o11
    obtain ⟨A3, C3, rfl⟩ := own_shape o8
    have kp5 := kp4.drew.grown o9 (own_bx o7.drew kp4.drew (by decide))
    have k45 := k44.drew.grown o9 (own_bx o7.drew k44.drew (by decide))
    have kq5 := kq4.drew.grown o9 (own_bx o7.drew kq4.drew (by decide))
    have hs5 := (hs4.dr).gr o7.drew o9
    have hT5 := hT4.drew.grown o9 hT4.size (fun k e => (o7.lt k e).1)
    refine Onward.on ⟨kp5, k45⟩ (fun hS2 => ?_)
    clear hS
    have hS := hS2
    clear hS2
    try simp only [Act.put, List.getElem_toArray, List.getElem_cons_succ, List.getElem_cons_zero, List.setIfInBounds_toArray, List.set_cons_zero, List.set_cons_succ]
    refine AnyG.takeC (i := 8) (v := ?_) rfl (by kernel_rfl) (fun _ _ _ h => h) rfl ?_ hS ?_
    rotate_left
    · (intro w' hSw; (try dsimp only at hSw); go_simp; try with_reducible rfl)
    try simp only [Act.put, List.getElem_toArray, List.getElem_cons_succ, List.getElem_cons_zero, List.setIfInBounds_toArray, List.set_cons_zero, List.set_cons_succ]
    refine AnyG.one (i := 9) (by kernel_rfl) rfl rfl ?_
    obtain ⟨r0, r1, r2, r3, rf, rz⟩ := kp5.four
    go_simp
    refine Onward.last rfl ?_
    try simp only [Act.put, List.getElem_toArray, List.getElem_cons_succ, List.getElem_cons_zero, List.setIfInBounds_toArray, List.set_cons_zero, List.set_cons_succ]
    refine AnyG.done (by kernel_rfl) ?_ _
    go_simp
    clear r0 r1 r2 r3 rf rz
    have hkk : i + 1 + 1 + (k - (i + 1)) = k + 1 := by omega
    rw [hkk] at o8
    rw [hkk]
    have kp6 : Bx (World.setCell w3 ⟨p, 3, none⟩ (.slice A3 (k + 1) C3)) p 26 #[.int .i64 1, .int .i64 z0, .int .i64 z1, .slice A3 (k + 1) C3] := by have := kp5.set_ 3 (.slice A3 (k + 1) C3); simpa using this
    have kq6 := kq5.far (p := ⟨p, 3, none⟩) (Ne.symm hpq) (.slice A3 (k + 1) C3)
    have o12 := own_set o8 (own_bx o8 kp5 (by decide)) (o := 3) (.slice A3 (k + 1) C3)
    have hs6 := hs5.set_ kp5 3 (.slice A3 (k + 1) C3)
    have hT6 : Below V.heap.size V (World.setCell w3 ⟨p, 3, none⟩ (.slice A3 (k + 1) C3)) := hT5.setCell hpV _
    obtain ⟨Y, hY⟩ : ∃ X, (World.setCell w3 ⟨p, 3, none⟩ (.slice A3 (k + 1) C3)) = X := ⟨_, rfl⟩
    rw [hY] at kp6 kq6 o12 hs6 hT6 ⊢
    have hcell : xs ++ [.int .i64 1, .int .i64 y, .int .i64 0, .int .i64 0, .int .i64 0] ++ ys = ((toldEs es i y).map Ev.cells).flatten := by rw [← HXS.out, ← HYS.out]; unfold toldEs tell; simp [Ev.cells]
    rw [hcell] at o12
    have htl : (toldEs es i y).length = k + 1 := by rw [told_len (by rw [HEL.out]; exact hi), HEL.out]
    have HTL := Lib.hid htl
    clear hY hcell htl kp4 kp5 kq4 kq5 k44 k45 o7 o8 o9 o10 o11 hs4 hs5 hT4 hT5 HXS HYS HYL HY1 HC2 hkk hS
    have I0 : TI V p q i k C3 z0 z1 A3 (toldEs es i y) FA2 fn fc2 BA2 bn bc2 fs bs d0 d1 F B 0 0 Y := ⟨kp6, kq6, o12, by rw [shK_zero]; exact hs6.of, by rw [shK_zero]; exact hs6.ob, hs6.ap, hT6⟩
    clear kp6 kq6 o12 hs6 hT6
    obtain ⟨s0, s1, s2, s3, s4, s5, sf, sz⟩ := I0.kq.six
    go_wp2_with fail
    go_loopw [12] (fun v12 wr => ∃ j : Nat, j ≤ fn ∧ v12 = .int .i64 j ∧ TI V p q i k C3 z0 z1 A3 (toldEs es i y) FA2 fn fc2 BA2 bn bc2 fs bs d0 d1 F B j 0 wr) (fun v12 _ => fn - (intOf v12).toNat)
    case atStart => exact ⟨0, by omega, rfl, I0⟩
    case round =>
      clear I0 s0 s1 s2 s3 s4 s5 sf sz
      obtain ⟨j, hj, rfl, I⟩ := hrel
      obtain ⟨s0, s1, s2, s3, s4, s5, sf, sz⟩ := I.kq.six
      by_cases hjf : j < fn
      · have hjl : j < F.length := by rw [HFN.out]; exact hjf
        obtain ⟨f, rfl⟩ := own_some I.of (by omega)
        have hc := I.of.cells (g := f) rfl j (.int .i64 F[j]) (by rw [ints_flat, List.getElem?_map, shK_at hjl]; rfl)
        rw [addr_q] at hc
        have hfr := own_free I.of
        have hbd := hFb F[j] (List.getElem_mem hjl)
        by_cases hgt : (i : Int) < F[j]
        · have HG := Lib.hid (I.putF HFN.out hjl hgt)
          have HI := Lib.hid I
          obtain ⟨x, hx⟩ : ∃ x, F[j] = x := ⟨_, rfl⟩
          rw [hx] at hc hbd hgt HG
          have hwx : IntKind.i64.wrap (x + 1) = x + 1 := IntWalk.i64_in _ (by omega)
          clear hx I
          go_wp2_with fail
          go_roundw
          case rel => exact ⟨j + 1, by omega, by go_num, HG.out⟩
          case measure => simp [intOf]; omega
        · have HI := Lib.hid I
          have hsame := shK_same hjl hgt
          have HS := Lib.hid hsame
          obtain ⟨x, hx⟩ : ∃ x, F[j] = x := ⟨_, rfl⟩
          rw [hx] at hc hbd hgt
          clear hx I hsame
          go_wp2_with fail
          go_roundw
          case rel => exact ⟨j + 1, by omega, by go_num, by obtain ⟨a1, a2, a3, a4, a5, a6, a7⟩ := HI.out; exact ⟨a1, a2, a3, by first | (rw [HS.out]; exact a4) | exact a4, by first | (rw [HS.out]; exact a5) | exact a5, a6, a7⟩⟩
          case measure => simp [intOf]; omega
      · obtain rfl : j = fn := by omega
        go_wp2_with fail
        go_loopw [13] (fun v13 wr2 => ∃ m : Nat, m ≤ bn ∧ v13 = .int .i64 m ∧ TI V p q i k C3 z0 z1 A3 (toldEs es i y) FA2 j fc2 BA2 bn bc2 fs bs d0 d1 F B j m wr2) (fun v13 _ => bn - (intOf v13).toNat)
        case atStart => exact ⟨0, by omega, rfl, I⟩
        case round =>
          clear I s0 s1 s2 s3 s4 s5 sf sz
          obtain ⟨m, hm, rfl, I⟩ := hrel
          obtain ⟨s0, s1, s2, s3, s4, s5, sf, sz⟩ := I.kq.six
          by_cases hmf : m < bn
          · have hjl : m < B.length := by rw [HBN.out]; exact hmf
            obtain ⟨f, rfl⟩ := own_some I.ob (by omega)
            have hc := I.ob.cells (g := f) rfl m (.int .i64 B[m]) (by rw [ints_flat, List.getElem?_map, shK_at hjl]; rfl)
            rw [addr_q] at hc
            have hfr := own_free I.ob
            have hbd := hBb B[m] (List.getElem_mem hjl)
            by_cases hgt : (i : Int) < B[m]
            · have HG := Lib.hid (I.putB HBN.out hjl hgt)
              have HI := Lib.hid I
              obtain ⟨x, hx⟩ : ∃ x, B[m] = x := ⟨_, rfl⟩
              rw [hx] at hc hbd hgt HG
              have hwx : IntKind.i64.wrap (x + 1) = x + 1 := IntWalk.i64_in _ (by omega)
              clear hx I
              go_wp2_with fail
              go_roundw
              case rel => exact ⟨m + 1, by omega, by go_num, HG.out⟩
              case measure => simp [intOf]; omega
            · have HI := Lib.hid I
              have hsame := shK_same hjl hgt
              have HS := Lib.hid hsame
              obtain ⟨x, hx⟩ : ∃ x, B[m] = x := ⟨_, rfl⟩
              rw [hx] at hc hbd hgt
              clear hx I hsame
              go_wp2_with fail
              go_roundw
              case rel => exact ⟨m + 1, by omega, by go_num, by obtain ⟨a1, a2, a3, a4, a5, a6, a7⟩ := HI.out; exact ⟨a1, a2, a3, by first | (rw [HS.out]; exact a4) | exact a4, by first | (rw [HS.out]; exact a5) | exact a5, a6, a7⟩⟩
              case measure => simp [intOf]; omega
          · obtain rfl : m = bn := by omega
            go_upto_region 14 with fail
            clear s0 s1 s2 s3 s4 s5 sf sz
            have k8r := k8.call I.hT
            have k9r := k9.call I.hT
            have h8p : b + 1 + 1 ≠ p := by omega
            have h8q : b + 1 + 1 ≠ q := by omega
            have h9p : b + 1 + 1 + 1 ≠ p := by omega
            have h9q : b + 1 + 1 + 1 ≠ q := by omega
            have HI := Lib.hid I
            have kp := I.kp
            have kq := I.kq
            clear I
            refine AnyG.startC (by kernel_rfl) ?_
            refine AnyG.enter (fun w' : World => Bx w' p 26 #[.int .i64 1, .int .i64 z0, .int .i64 z1, .slice A3 (k + 1) C3] ∧ Bx w' q 50 #[.slice FA2 j fc2, .slice BA2 m bc2, .int .i64 fs, .int .i64 bs, .int .i64 d0, .int .i64 d1]) (fun i => i != 3) ?_
            have hS : (fun w' : World => Bx w' p 26 #[.int .i64 1, .int .i64 z0, .int .i64 z1, .slice A3 (k + 1) C3] ∧ Bx w' q 50 #[.slice FA2 j fc2, .slice BA2 m bc2, .int .i64 fs, .int .i64 bs, .int .i64 d0, .int .i64 d1]) (World.drew _) := ⟨kp.drew, kq.drew⟩
            refine AnyG.takeC (i := 0) (v := ?_) rfl (by kernel_rfl) (fun _ _ _ h => h) rfl ?_ hS ?_
            rotate_left
            · (intro w' hSw; (try dsimp only at hSw); obtain ⟨r0, r1, r2, r3, rf, rz⟩ := hSw.1.four; go_simp; try with_reducible rfl)
            try simp only [Act.put, List.getElem_toArray, List.getElem_cons_succ, List.getElem_cons_zero, List.setIfInBounds_toArray, List.set_cons_zero, List.set_cons_succ]
            refine AnyG.takeC (i := 1) (v := ?_) rfl (by kernel_rfl) (fun _ _ _ h => h) rfl ?_ hS ?_
            rotate_left
            · (intro w' hSw; (try dsimp only at hSw); obtain ⟨q0, q1, q2, q3, q4, q5, qf, qz⟩ := hSw.2.six; go_simp; try with_reducible rfl)
            try simp only [Act.put, List.getElem_toArray, List.getElem_cons_succ, List.getElem_cons_zero, List.setIfInBounds_toArray, List.set_cons_zero, List.set_cons_succ]
            refine AnyG.one (i := 2) (by kernel_rfl) rfl rfl ?_
            obtain ⟨a0, a1, a2, a3, af, az⟩ := k8r.four
            go_simp
            refine Onward.on ⟨((((hS.1.far (p := ⟨b + 1 + 1, 0, none⟩) (Ne.symm h8p) (.int .i64 1)).far (p := ⟨b + 1 + 1, 1, none⟩) (Ne.symm h8p) (.int .i64 z0)).far (p := ⟨b + 1 + 1, 2, none⟩) (Ne.symm h8p) (.int .i64 z1)).far (p := ⟨b + 1 + 1, 3, none⟩) (Ne.symm h8p) (.slice A3 (k + 1) C3)), ((((hS.2.far (p := ⟨b + 1 + 1, 0, none⟩) (Ne.symm h8q) (.int .i64 1)).far (p := ⟨b + 1 + 1, 1, none⟩) (Ne.symm h8q) (.int .i64 z0)).far (p := ⟨b + 1 + 1, 2, none⟩) (Ne.symm h8q) (.int .i64 z1)).far (p := ⟨b + 1 + 1, 3, none⟩) (Ne.symm h8q) (.slice A3 (k + 1) C3))⟩ (fun hS2 => ?_)
            clear hS
            have hS := hS2
            clear hS2
            try simp only [Act.put, List.getElem_toArray, List.getElem_cons_succ, List.getElem_cons_zero, List.setIfInBounds_toArray, List.set_cons_zero, List.set_cons_succ]
            refine AnyG.one (i := 3) (by kernel_rfl) rfl rfl ?_
            have k9s := ((((k9r.far (p := ⟨b + 1 + 1, 0, none⟩) (Ne.symm (show b + 1 + 1 ≠ b + 1 + 1 + 1 by omega)) (.int .i64 1)).far (p := ⟨b + 1 + 1, 1, none⟩) (Ne.symm (show b + 1 + 1 ≠ b + 1 + 1 + 1 by omega)) (.int .i64 z0)).far (p := ⟨b + 1 + 1, 2, none⟩) (Ne.symm (show b + 1 + 1 ≠ b + 1 + 1 + 1 by omega)) (.int .i64 z1)).far (p := ⟨b + 1 + 1, 3, none⟩) (Ne.symm (show b + 1 + 1 ≠ b + 1 + 1 + 1 by omega)) (.slice A3 (k + 1) C3))
            obtain ⟨c0, c1, c2, c3, c4, c5, cf, cz⟩ := k9s.six
            go_simp
            refine Onward.last rfl ?_
            try simp only [Act.put, List.getElem_toArray, List.getElem_cons_succ, List.getElem_cons_zero, List.setIfInBounds_toArray, List.set_cons_zero, List.set_cons_succ]
            refine AnyG.done (by kernel_rfl) ?_ _
            go_simp
            go_wp2_with fail
            have hBF0 := hB0.trans (HI.out.hT.mono (Nat.le_trans hwb hB0.size))
            have k8f : Bx (World.drew (World.setCell (World.setCell (World.setCell (World.setCell (World.setCell (World.setCell (World.setCell (World.setCell (World.setCell (World.setCell wr ⟨b + 1 + 1, 0, none⟩ (.int .i64 1)) ⟨b + 1 + 1, 1, none⟩ (.int .i64 z0)) ⟨b + 1 + 1, 2, none⟩ (.int .i64 z1)) ⟨b + 1 + 1, 3, none⟩ (.slice A3 (k + 1) C3)) ⟨b + 1 + 1 + 1, 0, none⟩ (.slice FA2 j fc2)) ⟨b + 1 + 1 + 1, 1, none⟩ (.slice BA2 m bc2)) ⟨b + 1 + 1 + 1, 2, none⟩ (.int .i64 fs)) ⟨b + 1 + 1 + 1, 3, none⟩ (.int .i64 bs)) ⟨b + 1 + 1 + 1, 4, none⟩ (.int .i64 d0)) ⟨b + 1 + 1 + 1, 5, none⟩ (.int .i64 d1))) (b + 1 + 1) 26 #[.int .i64 1, .int .i64 z0, .int .i64 z1, .slice A3 (k + 1) C3] := by have := (((((((((((k8r.set_ 0 (.int .i64 1)).set_ 1 (.int .i64 z0)).set_ 2 (.int .i64 z1)).set_ 3 (.slice A3 (k + 1) C3)).far (p := ⟨b + 1 + 1 + 1, 0, none⟩) (show b + 1 + 1 ≠ b + 1 + 1 + 1 by omega) (.slice FA2 j fc2)).far (p := ⟨b + 1 + 1 + 1, 1, none⟩) (show b + 1 + 1 ≠ b + 1 + 1 + 1 by omega) (.slice BA2 m bc2)).far (p := ⟨b + 1 + 1 + 1, 2, none⟩) (show b + 1 + 1 ≠ b + 1 + 1 + 1 by omega) (.int .i64 fs)).far (p := ⟨b + 1 + 1 + 1, 3, none⟩) (show b + 1 + 1 ≠ b + 1 + 1 + 1 by omega) (.int .i64 bs)).far (p := ⟨b + 1 + 1 + 1, 4, none⟩) (show b + 1 + 1 ≠ b + 1 + 1 + 1 by omega) (.int .i64 d0)).far (p := ⟨b + 1 + 1 + 1, 5, none⟩) (show b + 1 + 1 ≠ b + 1 + 1 + 1 by omega) (.int .i64 d1)).drew); simpa using this
            have k9f : Bx (World.drew (World.setCell (World.setCell (World.setCell (World.setCell (World.setCell (World.setCell (World.setCell (World.setCell (World.setCell (World.setCell wr ⟨b + 1 + 1, 0, none⟩ (.int .i64 1)) ⟨b + 1 + 1, 1, none⟩ (.int .i64 z0)) ⟨b + 1 + 1, 2, none⟩ (.int .i64 z1)) ⟨b + 1 + 1, 3, none⟩ (.slice A3 (k + 1) C3)) ⟨b + 1 + 1 + 1, 0, none⟩ (.slice FA2 j fc2)) ⟨b + 1 + 1 + 1, 1, none⟩ (.slice BA2 m bc2)) ⟨b + 1 + 1 + 1, 2, none⟩ (.int .i64 fs)) ⟨b + 1 + 1 + 1, 3, none⟩ (.int .i64 bs)) ⟨b + 1 + 1 + 1, 4, none⟩ (.int .i64 d0)) ⟨b + 1 + 1 + 1, 5, none⟩ (.int .i64 d1))) (b + 1 + 1 + 1) 50 #[.slice FA2 j fc2, .slice BA2 m bc2, .int .i64 fs, .int .i64 bs, .int .i64 d0, .int .i64 d1] := by have := (((((((((((k9r.far (p := ⟨b + 1 + 1, 0, none⟩) (show b + 1 + 1 + 1 ≠ b + 1 + 1 by omega) (.int .i64 1)).far (p := ⟨b + 1 + 1, 1, none⟩) (show b + 1 + 1 + 1 ≠ b + 1 + 1 by omega) (.int .i64 z0)).far (p := ⟨b + 1 + 1, 2, none⟩) (show b + 1 + 1 + 1 ≠ b + 1 + 1 by omega) (.int .i64 z1)).far (p := ⟨b + 1 + 1, 3, none⟩) (show b + 1 + 1 + 1 ≠ b + 1 + 1 by omega) (.slice A3 (k + 1) C3)).set_ 0 (.slice FA2 j fc2)).set_ 1 (.slice BA2 m bc2)).set_ 2 (.int .i64 fs)).set_ 3 (.int .i64 bs)).set_ 4 (.int .i64 d0)).set_ 5 (.int .i64 d1)).drew); simpa using this
            have oef : World.ownsRow (World.drew (World.setCell (World.setCell (World.setCell (World.setCell (World.setCell (World.setCell (World.setCell (World.setCell (World.setCell (World.setCell wr ⟨b + 1 + 1, 0, none⟩ (.int .i64 1)) ⟨b + 1 + 1, 1, none⟩ (.int .i64 z0)) ⟨b + 1 + 1, 2, none⟩ (.int .i64 z1)) ⟨b + 1 + 1, 3, none⟩ (.slice A3 (k + 1) C3)) ⟨b + 1 + 1 + 1, 0, none⟩ (.slice FA2 j fc2)) ⟨b + 1 + 1 + 1, 1, none⟩ (.slice BA2 m bc2)) ⟨b + 1 + 1 + 1, 2, none⟩ (.int .i64 fs)) ⟨b + 1 + 1 + 1, 3, none⟩ (.int .i64 bs)) ⟨b + 1 + 1 + 1, 4, none⟩ (.int .i64 d0)) ⟨b + 1 + 1 + 1, 5, none⟩ (.int .i64 d1))) V.heap.size 28 5 (.slice A3 (k + 1) C3) (k + 1) ((toldEs es i y).map Ev.cells).flatten := (own_set (own_set (own_set (own_set (own_set (own_set (own_set (own_set (own_set (own_set HI.out.oe (own_bx HI.out.oe k8r (by decide)) (o := 0) (.int .i64 1)) (own_bx HI.out.oe k8r (by decide)) (o := 1) (.int .i64 z0)) (own_bx HI.out.oe k8r (by decide)) (o := 2) (.int .i64 z1)) (own_bx HI.out.oe k8r (by decide)) (o := 3) (.slice A3 (k + 1) C3)) (own_bx HI.out.oe k9r (by decide)) (o := 0) (.slice FA2 j fc2)) (own_bx HI.out.oe k9r (by decide)) (o := 1) (.slice BA2 m bc2)) (own_bx HI.out.oe k9r (by decide)) (o := 2) (.int .i64 fs)) (own_bx HI.out.oe k9r (by decide)) (o := 3) (.int .i64 bs)) (own_bx HI.out.oe k9r (by decide)) (o := 4) (.int .i64 d0)) (own_bx HI.out.oe k9r (by decide)) (o := 5) (.int .i64 d1)).drew
            have off : World.ownsRow (World.drew (World.setCell (World.setCell (World.setCell (World.setCell (World.setCell (World.setCell (World.setCell (World.setCell (World.setCell (World.setCell wr ⟨b + 1 + 1, 0, none⟩ (.int .i64 1)) ⟨b + 1 + 1, 1, none⟩ (.int .i64 z0)) ⟨b + 1 + 1, 2, none⟩ (.int .i64 z1)) ⟨b + 1 + 1, 3, none⟩ (.slice A3 (k + 1) C3)) ⟨b + 1 + 1 + 1, 0, none⟩ (.slice FA2 j fc2)) ⟨b + 1 + 1 + 1, 1, none⟩ (.slice BA2 m bc2)) ⟨b + 1 + 1 + 1, 2, none⟩ (.int .i64 fs)) ⟨b + 1 + 1 + 1, 3, none⟩ (.int .i64 bs)) ⟨b + 1 + 1 + 1, 4, none⟩ (.int .i64 d0)) ⟨b + 1 + 1 + 1, 5, none⟩ (.int .i64 d1))) V.heap.size 3 1 (.slice FA2 j fc2) j (ints (shK i F j)).flatten := (own_set (own_set (own_set (own_set (own_set (own_set (own_set (own_set (own_set (own_set HI.out.of (own_bx HI.out.of k8r (by decide)) (o := 0) (.int .i64 1)) (own_bx HI.out.of k8r (by decide)) (o := 1) (.int .i64 z0)) (own_bx HI.out.of k8r (by decide)) (o := 2) (.int .i64 z1)) (own_bx HI.out.of k8r (by decide)) (o := 3) (.slice A3 (k + 1) C3)) (own_bx HI.out.of k9r (by decide)) (o := 0) (.slice FA2 j fc2)) (own_bx HI.out.of k9r (by decide)) (o := 1) (.slice BA2 m bc2)) (own_bx HI.out.of k9r (by decide)) (o := 2) (.int .i64 fs)) (own_bx HI.out.of k9r (by decide)) (o := 3) (.int .i64 bs)) (own_bx HI.out.of k9r (by decide)) (o := 4) (.int .i64 d0)) (own_bx HI.out.of k9r (by decide)) (o := 5) (.int .i64 d1)).drew
            have obf : World.ownsRow (World.drew (World.setCell (World.setCell (World.setCell (World.setCell (World.setCell (World.setCell (World.setCell (World.setCell (World.setCell (World.setCell wr ⟨b + 1 + 1, 0, none⟩ (.int .i64 1)) ⟨b + 1 + 1, 1, none⟩ (.int .i64 z0)) ⟨b + 1 + 1, 2, none⟩ (.int .i64 z1)) ⟨b + 1 + 1, 3, none⟩ (.slice A3 (k + 1) C3)) ⟨b + 1 + 1 + 1, 0, none⟩ (.slice FA2 j fc2)) ⟨b + 1 + 1 + 1, 1, none⟩ (.slice BA2 m bc2)) ⟨b + 1 + 1 + 1, 2, none⟩ (.int .i64 fs)) ⟨b + 1 + 1 + 1, 3, none⟩ (.int .i64 bs)) ⟨b + 1 + 1 + 1, 4, none⟩ (.int .i64 d0)) ⟨b + 1 + 1 + 1, 5, none⟩ (.int .i64 d1))) V.heap.size 3 1 (.slice BA2 m bc2) m (ints (shK i B m)).flatten := (own_set (own_set (own_set (own_set (own_set (own_set (own_set (own_set (own_set (own_set HI.out.ob (own_bx HI.out.ob k8r (by decide)) (o := 0) (.int .i64 1)) (own_bx HI.out.ob k8r (by decide)) (o := 1) (.int .i64 z0)) (own_bx HI.out.ob k8r (by decide)) (o := 2) (.int .i64 z1)) (own_bx HI.out.ob k8r (by decide)) (o := 3) (.slice A3 (k + 1) C3)) (own_bx HI.out.ob k9r (by decide)) (o := 0) (.slice FA2 j fc2)) (own_bx HI.out.ob k9r (by decide)) (o := 1) (.slice BA2 m bc2)) (own_bx HI.out.ob k9r (by decide)) (o := 2) (.int .i64 fs)) (own_bx HI.out.ob k9r (by decide)) (o := 3) (.int .i64 bs)) (own_bx HI.out.ob k9r (by decide)) (o := 4) (.int .i64 d0)) (own_bx HI.out.ob k9r (by decide)) (o := 5) (.int .i64 d1)).drew
            have hBF : Below b w (World.drew (World.setCell (World.setCell (World.setCell (World.setCell (World.setCell (World.setCell (World.setCell (World.setCell (World.setCell (World.setCell wr ⟨b + 1 + 1, 0, none⟩ (.int .i64 1)) ⟨b + 1 + 1, 1, none⟩ (.int .i64 z0)) ⟨b + 1 + 1, 2, none⟩ (.int .i64 z1)) ⟨b + 1 + 1, 3, none⟩ (.slice A3 (k + 1) C3)) ⟨b + 1 + 1 + 1, 0, none⟩ (.slice FA2 j fc2)) ⟨b + 1 + 1 + 1, 1, none⟩ (.slice BA2 m bc2)) ⟨b + 1 + 1 + 1, 2, none⟩ (.int .i64 fs)) ⟨b + 1 + 1 + 1, 3, none⟩ (.int .i64 bs)) ⟨b + 1 + 1 + 1, 4, none⟩ (.int .i64 d0)) ⟨b + 1 + 1 + 1, 5, none⟩ (.int .i64 d1))) := Below.drew (Below.setCell (Below.setCell (Below.setCell (Below.setCell (Below.setCell (Below.setCell (Below.setCell (Below.setCell (Below.setCell (Below.setCell hBF0 (p := ⟨b + 1 + 1, 0, none⟩) (show b ≤ b + 1 + 1 by omega) (.int .i64 1)) (p := ⟨b + 1 + 1, 1, none⟩) (show b ≤ b + 1 + 1 by omega) (.int .i64 z0)) (p := ⟨b + 1 + 1, 2, none⟩) (show b ≤ b + 1 + 1 by omega) (.int .i64 z1)) (p := ⟨b + 1 + 1, 3, none⟩) (show b ≤ b + 1 + 1 by omega) (.slice A3 (k + 1) C3)) (p := ⟨b + 1 + 1 + 1, 0, none⟩) (show b ≤ b + 1 + 1 + 1 by omega) (.slice FA2 j fc2)) (p := ⟨b + 1 + 1 + 1, 1, none⟩) (show b ≤ b + 1 + 1 + 1 by omega) (.slice BA2 m bc2)) (p := ⟨b + 1 + 1 + 1, 2, none⟩) (show b ≤ b + 1 + 1 + 1 by omega) (.int .i64 fs)) (p := ⟨b + 1 + 1 + 1, 3, none⟩) (show b ≤ b + 1 + 1 + 1 by omega) (.int .i64 bs)) (p := ⟨b + 1 + 1 + 1, 4, none⟩) (show b ≤ b + 1 + 1 + 1 by omega) (.int .i64 d0)) (p := ⟨b + 1 + 1 + 1, 5, none⟩) (show b ≤ b + 1 + 1 + 1 by omega) (.int .i64 d1))
            obtain ⟨WW, hWW⟩ : ∃ X, (World.drew (World.setCell (World.setCell (World.setCell (World.setCell (World.setCell (World.setCell (World.setCell (World.setCell (World.setCell (World.setCell wr ⟨b + 1 + 1, 0, none⟩ (.int .i64 1)) ⟨b + 1 + 1, 1, none⟩ (.int .i64 z0)) ⟨b + 1 + 1, 2, none⟩ (.int .i64 z1)) ⟨b + 1 + 1, 3, none⟩ (.slice A3 (k + 1) C3)) ⟨b + 1 + 1 + 1, 0, none⟩ (.slice FA2 j fc2)) ⟨b + 1 + 1 + 1, 1, none⟩ (.slice BA2 m bc2)) ⟨b + 1 + 1 + 1, 2, none⟩ (.int .i64 fs)) ⟨b + 1 + 1 + 1, 3, none⟩ (.int .i64 bs)) ⟨b + 1 + 1 + 1, 4, none⟩ (.int .i64 d0)) ⟨b + 1 + 1 + 1, 5, none⟩ (.int .i64 d1))) = X := ⟨_, rfl⟩
            rw [hWW] at k8f k9f oef off obf hBF ⊢
            clear hWW hBF0 HI
            have eF : shK i F j = F.map (shOne i) := by rw [← HFN.out]; exact shK_all i F
            have eB : shK i B m = B.map (shOne i) := by rw [← HBN.out]; exact shK_all i B
            rw [eF] at off
            rw [eB] at obf
            refine bodyPost_ret (v := .tuple #[.agg #[.int .i64 1, .int .i64 z0, .int .i64 z1, .slice A3 (k + 1) C3], .agg #[.slice FA2 j fc2, .slice BA2 m bc2, .int .i64 fs, .int .i64 bs, .int .i64 d0, .int .i64 d1]]) (results_two (g := b + 1 + 1) (k := b + 1 + 1 + 1) (t := 26) (u := 50) rfl rfl rfl k8f k9f Try.underlying26 rfl (by kernel_rfl) Try.underlying50 rfl (by kernel_rfl)) rfl ⟨⟨A3, C3, FA2, fc2, BA2, bc2, rfl, own_evs2 oef HTL.out, own_sl2 off (by rw [List.length_map]; exact HFN.out), own_sl2 obf (by rw [List.length_map]; exact HBN.out)⟩, ?_⟩
            first | exact hBF | exact hBF.mono hwb2
/-- The width with each zero of each event told, over all zeros. -/
def wid (z0 z1 : Int) (es : List Ev) (F B : List Int) (i : Nat) (y : Int) : Int := wideOf (Tbe (wtc 1 es F B) (folc es (zst 1 z0 z1 es 0)) (zst 1 z0 z1 es 0) (es.length - 1)) (Tab (wtc 1 es F B) (folc es (zst 1 z0 z1 es 0)) (zst 1 z0 z1 es 0) es.length es.length) i y
theorem best_math (z0 z1 : Int) (k : Nat) (es : List Ev) (F B : List Int) (d : Int) (hel : es.length = k) (hlog : LogOk 1 z0 z1 es) (hfit : Fits 1 z0 z1 es k) (h1 : 1 ≤ k) (hd : 0 ≤ d) (hd2 : d ≤ 1000) :
    ∃ (b : Nat) (W : Nat → Int), b < k ∧ bst (wideL 1 es F B (zst 1 z0 z1 es 0) k) d k = ((b : Int), W b) ∧ (∀ i, i < k → mostOf (fun y => wid z0 z1 es F B i y + d) (rngL (zst 1 z0 z1 es 0 i).1 (zst 1 z0 z1 es 0 i).2) = W i) ∧ (∀ i, i < b → W b < W i) ∧ (∀ i, i < k → W b ≤ W i) ∧ ∀ i, i < k → 0 ≤ W i ∧ W i ≤ 3000000 := by
  subst hel
  have hwp := fun i (hi : i < es.length) y a c => wide_pos hlog hfit F B hi (y := y) a c
  have hwd : ∀ i, i < es.length → wideL 1 es F B (zst 1 z0 z1 es 0) es.length i = widest (Tbe (wtc 1 es F B) (folc es (zst 1 z0 z1 es 0)) (zst 1 z0 z1 es 0) (es.length - 1)) (Tab (wtc 1 es F B) (folc es (zst 1 z0 z1 es 0)) (zst 1 z0 z1 es 0) es.length es.length) i (rngL (zst 1 z0 z1 es 0 i).1 (zst 1 z0 z1 es 0 i).2) := fun i hi => by
    unfold wideL Lw wfull
    rw [if_pos hi]
  have hmo : ∀ i, i < es.length → mostOf (fun y => wid z0 z1 es F B i y + d) (rngL (zst 1 z0 z1 es 0 i).1 (zst 1 z0 z1 es 0 i).2) = wideL 1 es F B (zst 1 z0 z1 es 0) es.length i + d := fun i hi => by
    have hg := zst_good hlog hfit i hi
    have := most_widest (Tbe (wtc 1 es F B) (folc es (zst 1 z0 z1 es 0)) (zst 1 z0 z1 es 0) (es.length - 1)) (Tab (wtc 1 es F B) (folc es (zst 1 z0 z1 es 0)) (zst 1 z0 z1 es 0) es.length es.length) i d hd (rngL (zst 1 z0 z1 es 0 i).1 (zst 1 z0 z1 es 0 i).2) fun z hz => (hwp i hi z (rngL_mem hz).1 (rngL_mem hz).2).1
    rw [if_neg (rngL_ne hg.2.1)] at this
    rw [hwd i hi]
    exact this
  have hbd : ∀ i, i < es.length → 0 ≤ wideL 1 es F B (zst 1 z0 z1 es 0) es.length i ∧ wideL 1 es F B (zst 1 z0 z1 es 0) es.length i ≤ 2800000 := fun i hi => by
    rw [hwd i hi]
    have key : ∀ zs : List Int, (∀ z ∈ zs, (zst 1 z0 z1 es 0 i).1 ≤ z ∧ z ≤ (zst 1 z0 z1 es 0 i).2) → 0 ≤ widest (Tbe (wtc 1 es F B) (folc es (zst 1 z0 z1 es 0)) (zst 1 z0 z1 es 0) (es.length - 1)) (Tab (wtc 1 es F B) (folc es (zst 1 z0 z1 es 0)) (zst 1 z0 z1 es 0) es.length es.length) i zs ∧ widest (Tbe (wtc 1 es F B) (folc es (zst 1 z0 z1 es 0)) (zst 1 z0 z1 es 0) (es.length - 1)) (Tab (wtc 1 es F B) (folc es (zst 1 z0 z1 es 0)) (zst 1 z0 z1 es 0) es.length es.length) i zs ≤ 2800000 := by
      refine snoc_ind ?_ ?_
      · intro _; unfold widest; simp
      · intro zs z ih h
        have a := ih fun x hx => h x (by simp [hx])
        have b := hwp i hi z (h z (by simp)).1 (h z (by simp)).2
        rw [widest_snoc]
        omega
    exact key _ fun z hz => rngL_mem hz
  obtain ⟨b, hb, e, q1, q2⟩ := bst_spec (wideL 1 es F B (zst 1 z0 z1 es 0) es.length) d es.length h1 fun i hi => by have := hbd i hi; omega
  exact ⟨b, fun i => wideL 1 es F B (zst 1 z0 z1 es 0) es.length i + d, hb, e, hmo, q1, q2, fun i hi => by have := hbd i hi; dsimp only; omega⟩
theorem ds_wide {fs bs d0 d1 : Int} (h1 : 0 ≤ fs ∧ fs ≤ 2) (h2 : 0 ≤ bs ∧ bs ≤ 2) (h3 : 0 ≤ d0) (h4 : d0 ≤ d1) (h5 : d1 ≤ 200) : 0 ≤ dsHi fs bs d0 d1 - dsLo fs bs d0 d1 ∧ dsHi fs bs d0 d1 - dsLo fs bs d0 d1 ≤ 1000 := by
  have f3 : fs = 0 ∨ fs = 1 ∨ fs = 2 := by omega
  have b3 : bs = 0 ∨ bs = 1 ∨ bs = 2 := by omega
  unfold dsHi dsLo drLo drHi
  rcases f3 with r | r | r <;> rcases b3 with s | s | s <;> rw [r, s] <;> simp <;> omega
/-- The net weight of the slip of the log that is told a zero. -/
theorem told_nets (z0 z1 : Int) (k : Nat) (es : List Ev) (F B l : List Int) (fs bs d0 d1 : Int) (jj i : Nat) (y : Int) (A2 : Option Addr) (c2 : Nat) (FA2 : Option Addr) (fn fc2 : Nat) (BA2 : Option Addr) (bn bc2 : Nat) (W : World) (hel : es.length = k) (hk : k ≤ 13) (hck : ckL 1 z0 z1 es = 0) (hfit : Fits 1 z0 z1 es k) (hat : AtOk es es.length l) (hsp : SpOk l 2 jj F B) (hfn : F.length = fn) (hbn : B.length = bn) (h1 : 0 < fn) (h2 : 0 < bn) (hfs : 0 ≤ fs ∧ fs ≤ 2) (hbs : 0 ≤ bs ∧ bs ≤ 2) (h3 : 0 ≤ d0) (h4 : d0 ≤ d1) (h5 : d1 ≤ 200) (hi : i < k) (hy1 : (zst 1 z0 z1 es 0 i).1 ≤ y) (hy2 : y ≤ (zst 1 z0 z1 es 0 i).2) (hE : EvsAt W W.heap.size A2 (toldEs es i y)) (hF : Sl W W.heap.size 1 FA2 (ints (F.map (shOne i)))) (hB : Sl W W.heap.size 1 BA2 (ints (B.map (shOne i)))) :
    ∃ N1 N2 : Int, (Calls Try.prog 29 #[.agg #[.int .i64 1, .int .i64 z0, .int .i64 z1, .slice A2 (k + 1) c2], .agg #[.slice FA2 fn fc2, .slice BA2 bn bc2, .int .i64 fs, .int .i64 bs, .int .i64 d0, .int .i64 d1]] W fun e w' => e = .returned (.tuple #[.agg #[.int .i64 N1, .int .i64 N2], .int .i64 0]) ∧ Below W.heap.size W w') ∧ N2 - N1 = wid z0 z1 es F B i y + (dsHi fs bs d0 d1 - dsLo fs bs d0 d1) ∧ Bd 2000000 (N1, N2) := by
  subst hel
  have hlog := ckL_zero hck
  have hg := zst_good hlog hfit i hi
  have hckt := toldS_ck hck hi (by omega) (y := y) (by omega) (by omega)
  have hlogt := ckL_zero hckt
  obtain ⟨hft, hnt⟩ := told_net hlog hfit F B hi hy1 hy2 hlogt
  have htl := told_len hi y
  have hs := ckS_made hckt (toldS_at hi hat) (toldS_sp (i := i) hsp) (by omega) (by rw [List.length_map]; omega) (by rw [List.length_map]; omega) hfs.1 hfs.2 hbs.1 hbs.2 h3 h4 h5
  have b0 := net_small hlogt hft (by rw [htl]; omega) (F.map (shOne i)) (B.map (shOne i))
  have b1 := ds_small (fs := fs) (bs := bs) (d0 := d0) (d1 := d1) h3 (by omega) (by omega) h5
  have hfl := hsp.fl
  have hbl := hsp.bl
  refine ⟨_, _, net_ok 1 z0 z1 A2 (es.length + 1) c2 (toldEs es i y) FA2 fn fc2 BA2 bn bc2 fs bs d0 d1 (F.map (shOne i)) (B.map (shOne i)) W (by omega) htl hE (by omega) (by omega) (by rw [List.length_map]; exact hfn) (by rw [List.length_map]; exact hbn) hF hB hs (by rw [htl] at hft; exact hft), ?_, ?_⟩
  · rw [hnt]
    unfold wid wideOf
    dsimp only
    omega
  · rw [htl] at b0
    unfold Bd at b0 b1 ⊢
    dsimp only at b1 ⊢
    omega
set_option maxRecDepth 100000 in
set_option maxHeartbeats 8000000 in
theorem best_run (A : Option Addr) (n c : Nat) (L : List Int) (w : World) (hn : n ≤ 9000000000000000000) (hl : L.length = n) (hA : Sl w w.heap.size 1 A (ints L)) : Calls Try.prog 12 #[.slice A n c] w fun e w' => e = .returned (.bool true) ∧ Below w.heap.size w w' := by
  have HL := Lib.hid hl
  clear hl
  go_enter Try.func12, Try.ntmps12
  go_upto_region 3 with (first
    | (go_at_call 16; refine (feedOf_any A n c L _ hn HL.out hA).mono ?_; rintro e w1 ⟨⟨g, rfl, hg0, hfd⟩, hb1⟩)
    | (go_at_call 15; refine (logOf_any g 5 40 true _ hfd (by omega) (by omega) (by omega) (by omega)).mono ?_; rintro e w2 ⟨st, z0, z1, ts, z, ev, zv, nv, rfl, ⟨hs1, hs2, hs3, hz0, hz01, hz1⟩, hmd, hlen, hoe, hoz, hon, -, hfd2, hgr2⟩; obtain ⟨EA, EC, rfl⟩ := own_shape hoe; obtain ⟨ZA, ZC, rfl⟩ := own_shape hoz; obtain ⟨NA, NC, rfl⟩ := own_shape hon)
    | fail)
  obtain rfl : st = 1 := hs3 trivial
  clear hs1 hs2 hs3
  have hBw : Below w.heap.size w w2 := hb1.grown hgr2 hb1.size (fun k e => by cases e; exact hg0)
  have hgl2 := hfd2.lt
  obtain ⟨k, hk⟩ : ∃ k, ts.length = k := ⟨_, rfl⟩
  have hck := hmd.ck (by omega) (by omega) hz0 hz01 hz1 (by omega) (by omega)
  have hfit := hmd.fit (by omega) hz0 hz1 (by omega) (by omega)
  rw [hk] at hoe hoz hon hlen hfit ⊢
  have hel : (evsOf ts).length = k := by rw [← hk]; simp [evsOf]
  obtain ⟨es, hes⟩ : ∃ x, evsOf ts = x := ⟨_, rfl⟩
  rw [hes] at hoe hck hfit hel
  have hkc := own_cap hoe
  have hE0 : EvsAt ((w2.alloc (.cells #[.int .i64 1, .int .i64 z0, .int .i64 z1, .slice EA k EC] 26)).alloc (.cells #[.slice ZA k ZC, .slice NA k NC] 32)) ((w2.alloc (.cells #[.int .i64 1, .int .i64 z0, .int .i64 z1, .slice EA k EC] 26)).alloc (.cells #[.slice ZA k ZC, .slice NA k NC] 32)).heap.size EA es := (((own_evs2 hoe hel).alloc (Nat.le_refl _) _).alloc (by simp) _).more (by simp; omega)
  have hf0 : Fd g ((w2.alloc (.cells #[.int .i64 1, .int .i64 z0, .int .i64 z1, .slice EA k EC] 26)).alloc (.cells #[.slice ZA k ZC, .slice NA k NC] 32)) := (hfd2.alloc _).alloc _
  have kL0 := (Bx.new w2 26 #[.int .i64 1, .int .i64 z0, .int .i64 z1, .slice EA k EC]).alloc (.cells #[.slice ZA k ZC, .slice NA k NC] 32)
  have hB0 := (hBw.alloc hBw.size (.cells #[.int .i64 1, .int .i64 z0, .int .i64 z1, .slice EA k EC] 26)).alloc (by have := hBw.size; simp; omega) (.cells #[.slice ZA k ZC, .slice NA k NC] 32)
  obtain ⟨V, hV⟩ : ∃ V, (w2.alloc (.cells #[.int .i64 1, .int .i64 z0, .int .i64 z1, .slice EA k EC] 26)).alloc (.cells #[.slice ZA k ZC, .slice NA k NC] 32) = V := ⟨_, rfl⟩
  rw [hV] at hE0 hf0 kL0 hB0 ⊢
  obtain ⟨bL, hbL⟩ : ∃ b, w2.heap.size = b := ⟨_, rfl⟩
  have hgL : g ≠ bL := by omega
  rw [hbL] at kL0 ⊢
  have HCK := Lib.hid hck
  have HFIT := Lib.hid hfit
  have HEL := Lib.hid hel
  have hk14 : k ≤ 14 := by omega
  have hk5 : k ≤ 5 := by omega
  clear hoe hoz hon hfd hgr2 hmd hV hbL hes hk hck hfit hel hBw hfd2 hgl2 hb1
  obtain ⟨l0, l1, l2, l3, lf, lz⟩ := kL0.four
  go_upto_region 4 with (first | (go_at_call 26; refine (slipOf_any g 1 z0 z1 EA k EC es 2 _ hf0 HEL.out hk14 hE0 (by omega) (by omega)).mono ?_; rintro er U ⟨FA, fn, fc, BA, bn, bc, fs, bs, d0, d1, F, B, l, jj, rfl, hFn, hBn, hF, hBs, ⟨hfc, hbc⟩, hat, hsp, hfs, hbs, dr1, dr2, dr3, hfd, hgr⟩) | fail)
  clear l0 l1 l2 l3 lf lz
  have hEU := (Sl.ft hE0 hf0 hgr (evs_no _)).more hgr.size
  have kLU := kL0.grown hgr (by simpa using Ne.symm hgL)
  have hBU : Below w.heap.size w U := hB0.grown hgr hB0.size (fun k e => by cases e; exact hg0)
  have HFN := Lib.hid hFn
  have HBN := Lib.hid hBn
  obtain ⟨ok, hok⟩ : ∃ b, (decide (0 < fn) && decide (0 < bn)) = b := ⟨_, rfl⟩
  rw [hok]
  have HOK := Lib.hid hok
  clear hok hE0 kL0 hgr hFn hBn hB0 hfd hf0
  cases ok
  · go_wp2_with (first | (go_at_call 14; refine (awake_any _).mono ?_; rintro er x7 ⟨rfl, hq7⟩) | fail)
    go_ret
    exact ⟨rfl, (hBU.alloc hBU.size _).trans (hq7.mono (by have := hBU.size; simp; omega))⟩
  · have hok2 : 0 < fn ∧ 0 < bn := by simpa using HOK.out
    have hfn2 : fn ≤ 2 := by have := hsp.fl; rw [HFN.out] at this; omega
    have hbn2 : bn ≤ 2 := by have := hsp.bl; rw [HBN.out] at this; omega
    have hBY := hBU.alloc hBU.size (.cells #[.slice FA fn fc, .slice BA bn bc, .int .i64 fs, .int .i64 bs, .int .i64 d0, .int .i64 d1] 50)
    have kLY := kLU.alloc (.cells #[.slice FA fn fc, .slice BA bn bc, .int .i64 fs, .int .i64 bs, .int .i64 d0, .int .i64 d1] 50)
    have kSY := Bx.new U 50 #[.slice FA fn fc, .slice BA bn bc, .int .i64 fs, .int .i64 bs, .int .i64 d0, .int .i64 d1]
    have hEY := (Sl.alloc hEU (Nat.le_refl _) (.cells #[.slice FA fn fc, .slice BA bn bc, .int .i64 fs, .int .i64 bs, .int .i64 d0, .int .i64 d1] 50)).more (B' := (World.alloc U (.cells #[.slice FA fn fc, .slice BA bn bc, .int .i64 fs, .int .i64 bs, .int .i64 d0, .int .i64 d1] 50)).heap.size) (by simp)
    have hFY := (Sl.alloc hF (Nat.le_refl _) (.cells #[.slice FA fn fc, .slice BA bn bc, .int .i64 fs, .int .i64 bs, .int .i64 d0, .int .i64 d1] 50)).more (B' := (World.alloc U (.cells #[.slice FA fn fc, .slice BA bn bc, .int .i64 fs, .int .i64 bs, .int .i64 d0, .int .i64 d1] 50)).heap.size) (by simp)
    have hGY := (Sl.alloc hBs (Nat.le_refl _) (.cells #[.slice FA fn fc, .slice BA bn bc, .int .i64 fs, .int .i64 bs, .int .i64 d0, .int .i64 d1] 50)).more (B' := (World.alloc U (.cells #[.slice FA fn fc, .slice BA bn bc, .int .i64 fs, .int .i64 bs, .int .i64 d0, .int .i64 d1] 50)).heap.size) (by simp)
    obtain ⟨Y, hY⟩ : ∃ V, World.alloc U (.cells #[.slice FA fn fc, .slice BA bn bc, .int .i64 fs, .int .i64 bs, .int .i64 d0, .int .i64 d1] 50) = V := ⟨_, rfl⟩
    rw [hY] at hBY kLY kSY hEY hFY hGY ⊢
    obtain ⟨bS, hbS⟩ : ∃ b, U.heap.size = b := ⟨_, rfl⟩
    rw [hbS] at kSY ⊢
    clear hY hbS hBU kLU hEU hF hBs
    have hlF : ∀ x ∈ F, ldAt es x := fun x hx => (hat.mem _ (List.mem_of_mem_take (hsp.fm x hx))).1
    have hlB : ∀ x ∈ B, ldAt es x := fun x hx => (hat.mem _ (List.mem_of_mem_take (hsp.bm x hx))).1
    have hk1 : 1 ≤ k := by have h := hlF (F[0]'(by rw [HFN.out]; exact hok2.1)) (List.getElem_mem _); have h1 := h.1; have h2 := h.2.1; rw [HEL.out] at h2; omega
    have hFb : ∀ x ∈ F, -1000 ≤ x ∧ x ≤ 1000 := fun x hx => by have h := hlF x hx; have h1 := h.1; have h2 := h.2.1; rw [HEL.out] at h2; omega
    have hBb : ∀ x ∈ B, -1000 ≤ x ∧ x ≤ 1000 := fun x hx => by have h := hlB x hx; have h1 := h.1; have h2 := h.2.1; rw [HEL.out] at h2; omega
    have hs0 : ckS 1 z0 z1 es F B fs bs d0 d1 = 0 := ckS_made HCK.out hat hsp (by omega) (by rw [HFN.out]; omega) (by rw [HBN.out]; omega) hfs.1 hfs.2 hbs.1 hbs.2 (by omega) dr2 (by omega)
    have hdw := ds_wide hfs hbs (show 0 ≤ d0 by omega) dr2 (show d1 ≤ 200 by omega)
    obtain ⟨bb, Wf, hbk, hbst, hWm, hWl, hWg, hWb⟩ := best_math z0 z1 k es F B (dsHi fs bs d0 d1 - dsLo fs bs d0 d1) HEL.out (ckL_zero HCK.out) HFIT.out hk1 hdw.1 hdw.2
    have HBST := Lib.hid hbst
    have HWM := Lib.hid hWm
    have HWL := Lib.hid hWl
    have HWG := Lib.hid hWg
    have HWB := Lib.hid hWb
    have HFB := Lib.hid hFb
    have HBB := Lib.hid hBb
    have HS0 := Lib.hid hs0
    have HAT := Lib.hid hat
    have HSP := Lib.hid hsp
    have hWbb := hWb bb hbk
    have hzg : ∀ i, i < k → -200 ≤ (zst 1 z0 z1 es 0 i).1 ∧ (zst 1 z0 z1 es 0 i).1 ≤ (zst 1 z0 z1 es 0 i).2 ∧ (zst 1 z0 z1 es 0 i).2 ≤ 200 := fun i hi => by have := zst_good (ckL_zero HCK.out) (by rw [HEL.out]; exact HFIT.out) i (by rw [HEL.out]; exact hi); omega
    have HZG := Lib.hid hzg
    clear hbst hWm hWl hWg hWb hlF hlB hFb hBb hs0 hat hsp hzg
    obtain ⟨l0, l1, l2, l3, lf, lz⟩ := kLY.four
    obtain ⟨s0, s1, s2, s3, s4, s5, sf, sz⟩ := kSY.six
    go_upto_region 7 with (first | (go_at_call 38; refine (best_ok 1 z0 z1 EA k EC es FA fn fc BA bn bc fs bs d0 d1 F B _ (by omega) HEL.out hEY (by omega) (by omega) HFN.out HBN.out hFY hGY HS0.out HFIT.out).mono ?_; rintro er p1 ⟨he, hq1⟩; rw [HBST.out] at he; subst he) | fail)
    clear l0 l1 l2 l3 lf lz s0 s1 s2 s3 s4 s5 sf sz
    have hE1 := (Sl.below hEY hq1).more hq1.size
    obtain ⟨l0, l1, l2, l3, lf, lz⟩ := (kLY.call hq1).four
    go_upto_region 8 with (first | (go_at_call 18; refine (zeros_all 1 z0 z1 EA k EC es _ HEL.out hE1 HCK.out HFIT.out).mono ?_; rintro er P ⟨⟨QA, QC, rfl, hQ⟩, hq2⟩) | fail)
    clear l0 l1 l2 l3 lf lz
    have hq := hq1.trans (hq2.mono hq1.size)
    have kL := kLY.call hq
    have kS := kSY.call hq
    have hE := (Sl.below hEY hq).more hq.size
    have hF := (Sl.below hFY hq).more hq.size
    have hG := (Sl.below hGY hq).more hq.size
    have hBP := hBY.trans (hq.mono hBY.size)
    clear hq1 hq2 hq hE1 kLY kSY hEY hFY hGY hBY
    obtain ⟨l0, l1, l2, l3, lf, lz⟩ := kL.four
    obtain ⟨wb, hwb⟩ : ∃ x, Wf bb = x := ⟨_, rfl⟩
    rw [hwb] at hWbb ⊢
    have HWBB := Lib.hid hwb
    clear hwb
    go_upto_block 0 with fail
    have hd1 : decide ((bb : Int) < 0) = false := decide_eq_false (by omega)
    have hd2 : decide (k ≤ bb) = false := decide_eq_false (by omega)
    simp only [hd1, hd2, Bool.or_false]
    clear hd1 hd2
    go_wp2_with fail
    clear l0 l1 l2 l3 lf lz
    go_loopw [13] (fun v13 wr => ∃ i : Nat, i ≤ k ∧ v13 = .int .i64 i ∧ Below P.heap.size P wr) (fun v13 _ => k - (intOf v13).toNat)
    case atStart => exact ⟨0, by omega, rfl, Below.refl _ _⟩
    case round =>
      obtain ⟨i, hi, rfl, hB⟩ := hrel
      by_cases hik : i < k
      · obtain ⟨qa, rfl, hqa, q0, q1⟩ := zrows_at hQ hik
        have hz := HZG.out i hik
        have hmo := HWM.out i hik
        obtain ⟨lo, hlo⟩ : ∃ a, (zst 1 z0 z1 es 0 i).1 = a := ⟨_, rfl⟩
        obtain ⟨hi2, hhi⟩ : ∃ a, (zst 1 z0 z1 es 0 i).2 = a := ⟨_, rfl⟩
        rw [hlo] at q0 hz hmo
        rw [hhi] at q1 hz hmo
        have HLO := Lib.hid (And.intro hlo hhi)
        obtain ⟨cnt, hcnt⟩ : ∃ c : Nat, (hi2 - lo + 1).toNat = c := ⟨_, rfl⟩
        have hcn : (cnt : Int) = hi2 - lo + 1 := by omega
        have hmo2 : mostOf (fun y => wid z0 z1 es F B i y + (dsHi fs bs d0 d1 - dsLo fs bs d0 d1)) (upTo lo cnt) = Wf i := by rw [← hmo, ← hcnt]; rfl
        have HMO := Lib.hid hmo2
        have HQ := Lib.hid (And.intro q0 q1)
        have hWi := HWB.out i hik
        clear hmo hmo2 hlo hhi hcnt q0 q1
        have q0 := (hB.cell (p := qa.add (i * 2)) (by rw [add_block]; exact hqa)).trans HQ.out.1
        go_wp2_with fail
        clear q0
        go_loopw [14, 15] (fun v14 v15 wr2 => ∃ m : Nat, m ≤ cnt ∧ v15 = .int .i64 (lo + (m : Int)) ∧ v14 = .int .i64 (mostOf (fun y => wid z0 z1 es F B i y + (dsHi fs bs d0 d1 - dsLo fs bs d0 d1)) (upTo lo m)) ∧ Below P.heap.size P wr2) (fun _ v15 _ => (hi2 + 1 - intOf v15).toNat)
        case atStart => exact ⟨0, by omega, by simp, rfl, hB⟩
        case round =>
          clear hB
          obtain ⟨m, hm, rfl, rfl, hB⟩ := hrel
          have q1 := (hB.cell (p := ⟨(qa.add (i * 2)).block, (qa.add (i * 2)).off + 1, none⟩) (by show (qa.add (i * 2)).block < _; rw [add_block]; exact hqa)).trans HQ.out.2
          by_cases hmc : m < cnt
          · have hle : lo + (m : Int) ≤ hi2 := by omega
            obtain ⟨y, hy⟩ : ∃ y, lo + (m : Int) = y := ⟨_, rfl⟩
            have hup : mostOf (fun y => wid z0 z1 es F B i y + (dsHi fs bs d0 d1 - dsLo fs bs d0 d1)) (upTo lo (m + 1)) = max (mostOf (fun y => wid z0 z1 es F B i y + (dsHi fs bs d0 d1 - dsLo fs bs d0 d1)) (upTo lo m)) ((fun y => wid z0 z1 es F B i y + (dsHi fs bs d0 d1 - dsLo fs bs d0 d1)) y) := by rw [upTo_succ, mostOf_snoc, hy]
            obtain ⟨mo, hmo⟩ : ∃ x, mostOf (fun y => wid z0 z1 es F B i y + (dsHi fs bs d0 d1 - dsLo fs bs d0 d1)) (upTo lo m) = x := ⟨_, rfl⟩
            rw [hmo] at hup ⊢
            rw [hy] at hle ⊢
            have HUP := Lib.hid hup
            have HY := Lib.hid hy
            have hyl : lo ≤ y := by omega
            clear hup hmo hy
            have kLw := kL.call hB
            have kSw := kS.call hB
            have hEw := (Sl.below hE hB).more hB.size
            have hFw := (Sl.below hF hB).more hB.size
            have hGw := (Sl.below hG hB).more hB.size
            obtain ⟨l0, l1, l2, l3, lf, lz⟩ := kLw.four
            obtain ⟨s0, s1, s2, s3, s4, s5, sf, sz⟩ := kSw.six
            go_upto_region 18 with (first | (go_at_call 51; refine (told_any z0 z1 EA k EC es FA fn fc BA bn bc fs bs d0 d1 F B i y _ hk14 hkc HEL.out hik hEw (by omega) (by omega) HFN.out HBN.out hFw hGw HFB.out HBB.out).mono ?_; rintro er y1 ⟨⟨A2, c2, FA2, fc2, BA2, bc2, rfl, hET, hFT, hGT⟩, hq1⟩) | fail)
            clear l0 l1 l2 l3 lf lz s0 s1 s2 s3 s4 s5 sf sz kLw kSw hEw hFw hGw q1
            have hB1 := hB.trans (hq1.mono hB.size)
            have hB2 := (hB1.alloc hB1.size (.cells #[.int .i64 1, .int .i64 z0, .int .i64 z1, .slice A2 (k + 1) c2] 26)).alloc (by have := hB1.size; simp; omega) (.cells #[.slice FA2 fn fc2, .slice BA2 bn bc2, .int .i64 fs, .int .i64 bs, .int .i64 d0, .int .i64 d1] 50)
            have kX := (Bx.new y1 26 #[.int .i64 1, .int .i64 z0, .int .i64 z1, .slice A2 (k + 1) c2]).alloc (.cells #[.slice FA2 fn fc2, .slice BA2 bn bc2, .int .i64 fs, .int .i64 bs, .int .i64 d0, .int .i64 d1] 50)
            have kT := Bx.at (y1.alloc (.cells #[.int .i64 1, .int .i64 z0, .int .i64 z1, .slice A2 (k + 1) c2] 26)) 50 #[.slice FA2 fn fc2, .slice BA2 bn bc2, .int .i64 fs, .int .i64 bs, .int .i64 d0, .int .i64 d1] (n := y1.heap.size + 1) (by simp)
            have hET2 := (Sl.alloc (Sl.alloc hET (Nat.le_refl _) (.cells #[.int .i64 1, .int .i64 z0, .int .i64 z1, .slice A2 (k + 1) c2] 26)) (by simp) (.cells #[.slice FA2 fn fc2, .slice BA2 bn bc2, .int .i64 fs, .int .i64 bs, .int .i64 d0, .int .i64 d1] 50)).more (B' := ((y1.alloc (.cells #[.int .i64 1, .int .i64 z0, .int .i64 z1, .slice A2 (k + 1) c2] 26)).alloc (.cells #[.slice FA2 fn fc2, .slice BA2 bn bc2, .int .i64 fs, .int .i64 bs, .int .i64 d0, .int .i64 d1] 50)).heap.size) (by simp; omega)
            have hFT2 := (Sl.alloc (Sl.alloc hFT (Nat.le_refl _) (.cells #[.int .i64 1, .int .i64 z0, .int .i64 z1, .slice A2 (k + 1) c2] 26)) (by simp) (.cells #[.slice FA2 fn fc2, .slice BA2 bn bc2, .int .i64 fs, .int .i64 bs, .int .i64 d0, .int .i64 d1] 50)).more (B' := ((y1.alloc (.cells #[.int .i64 1, .int .i64 z0, .int .i64 z1, .slice A2 (k + 1) c2] 26)).alloc (.cells #[.slice FA2 fn fc2, .slice BA2 bn bc2, .int .i64 fs, .int .i64 bs, .int .i64 d0, .int .i64 d1] 50)).heap.size) (by simp; omega)
            have hGT2 := (Sl.alloc (Sl.alloc hGT (Nat.le_refl _) (.cells #[.int .i64 1, .int .i64 z0, .int .i64 z1, .slice A2 (k + 1) c2] 26)) (by simp) (.cells #[.slice FA2 fn fc2, .slice BA2 bn bc2, .int .i64 fs, .int .i64 bs, .int .i64 d0, .int .i64 d1] 50)).more (B' := ((y1.alloc (.cells #[.int .i64 1, .int .i64 z0, .int .i64 z1, .slice A2 (k + 1) c2] 26)).alloc (.cells #[.slice FA2 fn fc2, .slice BA2 bn bc2, .int .i64 fs, .int .i64 bs, .int .i64 d0, .int .i64 d1] 50)).heap.size) (by simp; omega)
            obtain ⟨X, hX⟩ : ∃ V, (y1.alloc (.cells #[.int .i64 1, .int .i64 z0, .int .i64 z1, .slice A2 (k + 1) c2] 26)).alloc (.cells #[.slice FA2 fn fc2, .slice BA2 bn bc2, .int .i64 fs, .int .i64 bs, .int .i64 d0, .int .i64 d1] 50) = V := ⟨_, rfl⟩
            rw [hX] at hB2 kX kT hET2 hFT2 hGT2 ⊢
            obtain ⟨bX, hbX⟩ : ∃ b, y1.heap.size = b := ⟨_, rfl⟩
            rw [hbX] at kX kT ⊢
            clear hX hbX hET hFT hGT hB1 hq1 hB
            obtain ⟨N1, N2, net, hnw, hnb1, hnb2, hnb3, hnb4⟩ := told_nets z0 z1 k es F B l fs bs d0 d1 jj i y A2 c2 FA2 fn fc2 BA2 bn bc2 X HEL.out (by omega) HCK.out HFIT.out HAT.out HSP.out HFN.out HBN.out hok2.1 hok2.2 hfs hbs (by omega) dr2 (by omega) hik (by rw [HLO.out.1]; exact hyl) (by rw [HLO.out.2]; exact hle) hET2 hFT2 hGT2
            have NET := Lib.hid net
            have HNW := Lib.hid hnw
            clear net hnw hET2 hFT2 hGT2
            dsimp only at hnb1 hnb2 hnb3 hnb4
            have hww : IntKind.i64.wrap (N2 - N1) = N2 - N1 := IntWalk.i64_in _ (by omega)
            obtain ⟨l0, l1, l2, l3, lf, lz⟩ := kX.four
            obtain ⟨s0, s1, s2, s3, s4, s5, sf, sz⟩ := kT.six
            go_upto_region 19 with (first | (go_at_call 29; refine NET.out.mono ?_; rintro er y2 ⟨rfl, hq2⟩) | fail)
            clear l0 l1 l2 l3 lf lz s0 s1 s2 s3 s4 s5 sf sz kX kT
            have hB3 := (hB2.trans (hq2.mono hB2.size)).alloc (by have := hB2.size; have := hq2.size; omega) (.cells #[.int .i64 N1, .int .i64 N2] 23)
            have kN := Bx.new y2 23 #[.int .i64 N1, .int .i64 N2]
            obtain ⟨Z, hZ⟩ : ∃ V, y2.alloc (.cells #[.int .i64 N1, .int .i64 N2] 23) = V := ⟨_, rfl⟩
            rw [hZ] at hB3 kN ⊢
            clear hZ hq2 hB2
            obtain ⟨n0, n1, nf, nz⟩ := kN.two
            go_wp2_with fail
            all_goals (refine ⟨⟨m + 1, by omega, by have hyy := HY.out; congr 1; push_cast; omega, ?_, hB3⟩, by simp [intOf]; omega⟩; rw [HUP.out]; have hwi := HNW.out; congr 1; (try dsimp only); split <;> omega)
          · obtain rfl : m = cnt := by omega
            rw [HMO.out]
            obtain ⟨wi, hwi⟩ : ∃ x, Wf i = x := ⟨_, rfl⟩
            have hcase : (i = bb → wi = wb) ∧ (i < bb → wb < wi) ∧ (bb < i → wb ≤ wi) := ⟨fun h => by rw [← hwi, h]; exact HWBB.out, fun h => by rw [← hwi, ← HWBB.out]; exact HWL.out i h, fun h => by rw [← hwi, ← HWBB.out]; exact HWG.out i hik⟩
            rw [hwi] at hWi ⊢
            clear hwi
            obtain ⟨hc1, hc2, hc3⟩ := hcase
            rcases Nat.lt_trichotomy i bb with hlt | heq | hgt
            · have hc := hc2 hlt
              have hn1 : ¬ i = bb := by omega
              have hn2 : ¬ bb < i := by omega
              go_wp2_with fail
              all_goals (refine ⟨⟨i + 1, by omega, by simp, hB⟩, by simp [intOf]; omega⟩)
            · have hc := hc1 heq
              subst heq
              have hn1 : ¬ i < i := by omega
              go_wp2_with fail
              all_goals (refine ⟨⟨i + 1, by omega, by simp, hB⟩, by simp [intOf]; omega⟩)
            · have hc := hc3 hgt
              have hn1 : ¬ i = bb := by omega
              have hn2 : ¬ i < bb := by omega
              go_wp2_with fail
              all_goals (refine ⟨⟨i + 1, by omega, by simp, hB⟩, by simp [intOf]; omega⟩)
      · obtain rfl : i = k := by omega
        go_wp2_with (first | (go_at_call 14; refine (awake_any _).mono ?_; rintro er x7 ⟨rfl, hq7⟩) | fail)
        go_ret
        exact ⟨rfl, (hBP.trans (hB.mono hBP.size)).trans (hq7.mono (by have := hBP.size; have := hB.size; omega))⟩
end Go.Proofs.Ytgbogdckmfencaa
