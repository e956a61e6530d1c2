/- What reasons, plain proofs and checked proofs say: mathematics. -/
import Derived.Test.YtmemcopfeabcgaaOb
set_option linter.unusedSimpArgs false
set_option linter.unusedVariables false
namespace Go.Proofs.Ytmemcopfeabcgaa
open Go Go.RowKit
/-! What reasons and proofs say. -/
section
variable {o : Od} {lo hi b : Nat → Int} {p : Int}
/-- No good blend of a box costs less than p. -/
def NoneLess (o : Od) (p : Int) (lo hi : Nat → Int) : Prop := ∀ b, InB lo hi b → Good o b → p ≤ cst o b o.bs.length
theorem kil_mono {b d : Nat → Int} (h : o.Ok) (hle : ∀ i, i < 4 → b i ≤ d i) : kil o b o.bs.length ≤ kil o d o.bs.length :=
  sm_mono fun i hi => Int.mul_le_mul_of_nonneg_right (hle i (by have := h.b2; omega)) (by have := (h.bn hi).w1; omega)
theorem cst_mono {b d : Nat → Int} (h : o.Ok) (hle : ∀ i, i < 4 → b i ≤ d i) : cst o b o.bs.length ≤ cst o d o.bs.length :=
  sm_mono fun i hi => Int.mul_le_mul_of_nonneg_right (hle i (by have := h.b2; omega)) (h.bn hi).c1
theorem exX_ovr {j k : Nat} : exX o b j k = sm (fun i => b i * ovr o i j) k := sm_congr fun i _ => by unfold ovr; rw [Int.mul_assoc]
theorem mid_mul {x y z c : Int} (h1 : x ≤ y) (h2 : y ≤ z) : min (x * c) (z * c) ≤ y * c := by
  rcases Int.le_total 0 c with hc | hc
  · have := Int.mul_le_mul_of_nonneg_right h1 hc; omega
  · have := Int.mul_le_mul_of_nonpos_right h2 hc; omega
theorem brk_le (h : o.Ok) (hb : InB lo hi b) {j : Nat} : brk o lo hi j o.bs.length ≤ exX o b j o.bs.length := by
  rw [exX_ovr]
  exact sm_mono fun i hi => mid_mul (hb i (by have := h.b2; omega)).1 (hb i (by have := h.b2; omega)).2
theorem good_ex (hg : Good o b) {j : Nat} (hj : j < o.lm.length) : exX o b j o.bs.length ≤ 0 := by
  have hv := hg.2.2
  unfold kv at hv
  split at hv
  · cases hv
  · split at hv
    · cases hv
    · rename_i hx
      exact Int.not_lt.1 fun h3 => hx (by simp only [xk, List.any_eq_true, List.mem_range, decide_eq_true_eq]; exact ⟨j, hj, h3⟩)
/-- A reason is right. -/
def Right (o : Od) (p : Int) (lo hi : Nat → Int) (r : Bd) : Prop :=
  r.rs = 2 ∧ isL o hi = true ∨ r.rs = 3 ∧ isH o lo = true ∨ (r.rs = 4 ∧ 0 ≤ r.at_ ∧ r.at_ < o.lm.length ∧ isB o lo hi r.at_.toNat = true) ∨ r.rs = 5 ∧ isD o p lo = true
theorem right_none (h : o.Ok) {r : Bd} (hr : Right o p lo hi r) : NoneLess o p lo hi := by
  intro b hb hg
  rcases hr with ⟨_, h1⟩ | ⟨_, h1⟩ | ⟨_, h0, h2, h1⟩ | ⟨_, h1⟩
  · have := kil_mono h (fun i hi => (hb i hi).2)
    have h3 := hg.1
    simp only [isL, decide_eq_true_eq] at h1
    omega
  · have := kil_mono h (fun i hi => (hb i hi).1)
    have h3 := hg.2.1
    simp only [isH, decide_eq_true_eq] at h1
    omega
  · have h3 := brk_le h hb (j := r.at_.toNat)
    have h4 := good_ex hg (j := r.at_.toNat) (by omega)
    simp only [isB, decide_eq_true_eq] at h1
    omega
  · have := cst_mono h (fun i hi => (hb i hi).1)
    simp only [isD, decide_eq_true_eq] at h1
    omega
theorem reason_right {r : Bd} (hr : reason o p lo hi = some r) : Right o p lo hi r := by
  unfold reason at hr
  split at hr
  · rename_i h1; cases hr; exact .inl ⟨rfl, h1⟩
  · split at hr
    · rename_i h1; cases hr; exact .inr (.inl ⟨rfl, h1⟩)
    · split at hr
      · rename_i j hj
        cases hr
        have h1 := List.find?_some hj
        have h2 := List.mem_of_find?_eq_some hj
        rw [List.mem_range] at h2
        exact .inr (.inr (.inl ⟨rfl, Int.natCast_nonneg _, Int.ofNat_lt.2 h2, by simpa using h1⟩))
      · split at hr
        · rename_i h1; cases hr; exact .inr (.inr (.inr ⟨rfl, h1⟩))
        · cases hr
theorem one4_eq (h : one4 lo hi = true) {i : Nat} (hi4 : i < 4) : lo i = hi i := by
  simp only [one4, Bool.and_eq_true, beq_iff_eq] at h
  rcases four hi4 with rfl | rfl | rfl | rfl
  · exact h.1.1.1
  · exact h.1.1.2
  · exact h.1.2
  · exact h.2
/-- A box of one blend without a reason: the blend is good and costs less. -/
theorem reason_none (h : o.Ok) (hb : BoxOk lo hi) (hr : reason o p lo hi = none) (h1 : one4 lo hi = true) : Good o lo ∧ cst o lo o.bs.length < p := by
  have h4 := h.b2
  unfold reason at hr
  split at hr
  · cases hr
  · rename_i a1
    split at hr
    · cases hr
    · rename_i a2
      split at hr
      · cases hr
      · rename_i a3
        split at hr
        · cases hr
        · rename_i a4
          simp only [isL, decide_eq_true_eq] at a1
          simp only [isH, decide_eq_true_eq] at a2
          simp only [isD, decide_eq_true_eq] at a4
          rw [List.find?_eq_none] at a3
          have e1 : kil o hi o.bs.length = kil o lo o.bs.length := kil_four h4 fun i hi4 => (one4_eq h1 hi4).symm
          have hx : ∀ j, j < o.lm.length → exX o lo j o.bs.length ≤ 0 := fun j hj => by
            have := a3 j (List.mem_range.2 hj)
            simp only [isB, decide_eq_true_eq] at this
            have e : brk o lo hi j o.bs.length = exX o lo j o.bs.length := by
              rw [exX_ovr]
              exact sm_congr fun i hi' => by rw [one4_eq h1 (show i < 4 by omega)]; simp
            omega
          have hn : ¬ nk o lo o.lm.length = true := by
            simp only [nk, List.any_eq_true, List.mem_range, decide_eq_true_eq]
            rintro ⟨j, hj, h6⟩
            have := hx j hj
            have := exN_exX h hb.six (j := j) (Nat.le_refl o.bs.length); omega
          have hxx : ¬ xk o lo o.lm.length = true := by
            simp only [xk, List.any_eq_true, List.mem_range, decide_eq_true_eq]
            rintro ⟨j, hj, h6⟩
            have := hx j hj; omega
          exact ⟨⟨by omega, by omega, by unfold kv; rw [if_neg hn, if_neg hxx]⟩, by omega⟩
theorem cut_split {m : Nat} {c : Int} {b : Nat → Int} (hb : InB lo hi b) : InB lo (up1 hi m c) b ∨ InB (up1 lo m (c + 1)) hi b := by
  by_cases hm : b m ≤ c
  · refine .inl fun i hi4 => ?_
    have := hb i hi4
    unfold up1; split
    · rename_i e; subst e; exact ⟨this.1, hm⟩
    · exact this
  · refine .inr fun i hi4 => ?_
    have := hb i hi4
    unfold up1; split
    · rename_i e; subst e; exact ⟨by omega, this.2⟩
    · exact this
theorem in_lower {m : Nat} {c : Int} (hc : c ≤ hi m) (hb : InB lo (up1 hi m c) b) : InB lo hi b := fun i hi4 => by
  have := hb i hi4
  unfold up1 at this; split at this
  · rename_i e; subst e; omega
  · exact this
theorem in_upper {m : Nat} {c : Int} (hc : lo m ≤ c + 1) (hb : InB (up1 lo m (c + 1)) hi b) : InB lo hi b := fun i hi4 => by
  have := hb i hi4
  unfold up1 at this; split at this
  · rename_i e; subst e; omega
  · exact this
/-- There is a plain proof just if no good blend costs less. -/
theorem prf_some (h : o.Ok) : ∀ (n : Nat) (lo hi : Nat → Int), BoxOk lo hi → wid lo hi < n → ((∃ L, prf o p n lo hi = some L) ↔ NoneLess o p lo hi) := by
  intro n
  induction n with
  | zero => intro lo hi _ hw; omega
  | succ n ih =>
    intro lo hi hb hw
    unfold prf
    cases hr : reason o p lo hi with
    | some r => exact ⟨fun _ => right_none h (reason_right hr), fun _ => ⟨_, rfl⟩⟩
    | none =>
      cases h1 : one4 lo hi with
      | true =>
        obtain ⟨h2, h3⟩ := reason_none h hb hr h1
        refine ⟨fun ⟨L, hL⟩ => by simp at hL, fun hn => ?_⟩
        have := hn lo (fun i hi4 => ⟨Int.le_refl _, hb.le i hi4⟩) h2
        omega
      | false =>
        obtain ⟨hm4, _⟩ := mid_lt h1
        obtain ⟨c1, c2⟩ := cutAt_bd hb h1
        have i1 := ih lo (up1 hi (mid lo hi) (cutAt lo hi)) (hb.lower hm4 c1 c2) (by have := wid_lower hm4 c1 c2; omega)
        have i2 := ih (up1 lo (mid lo hi) (cutAt lo hi + 1)) hi (hb.upper hm4 c1 c2) (by have := wid_upper hm4 c1 c2; omega)
        simp only [Bool.false_eq_true, if_false]
        constructor
        · rintro ⟨L, hL⟩
          split at hL
          · rename_i x y hx hy
            have n1 := i1.1 ⟨x, hx⟩
            have n2 := i2.1 ⟨y, hy⟩
            intro b hb' hg
            rcases cut_split (m := mid lo hi) (c := cutAt lo hi) hb' with h5 | h5
            · exact n1 b h5 hg
            · exact n2 b h5 hg
          · cases hL
        · intro hn
          obtain ⟨x, hx⟩ := i1.2 fun b hb' hg => hn b (in_lower (by omega) hb') hg
          obtain ⟨y, hy⟩ := i2.2 fun b hb' hg => hn b (in_upper (by omega) hb') hg
          exact ⟨_, by rw [hx, hy]⟩
end
/-! Proofs that are checked. -/
def RightB (o : Od) (p : Int) (lo hi : Nat → Int) (r : Bd) : Bool :=
  if r.rs = 2 then isL o hi else if r.rs = 3 then isH o lo else if r.rs = 4 then isB o lo hi r.at_.toNat else isD o p lo
/-- The error of a bound, by itself. -/
def ckBd (o : Od) (p : Int) (lo hi : Nat → Int) (r : Bd) : Int :=
  if r.rs = 1 then (if r.at_ < 0 ∨ (o.bs.length : Int) - 1 < r.at_ then 3 else if r.ct < lo r.at_.toNat ∨ hi r.at_.toNat - 1 < r.ct then 1 else 0)
  else if r.rs = 4 ∧ (r.at_ < 0 ∨ (o.lm.length : Int) - 1 < r.at_) then 3
  else if r.rs ≠ 2 ∧ r.rs ≠ 3 ∧ r.rs ≠ 4 ∧ r.rs ≠ 5 then 8
  else if RightB o p lo hi r = true then 0 else 9
/-- What is left of a proof behind a box, and the error. -/
def vfy (o : Od) (p : Int) : Nat → (Nat → Int) → (Nat → Int) → List Bd → List Bd × Int
  | 0, _, _, L => (L, 2)
  | _ + 1, _, _, [] => ([], 2)
  | n + 1, lo, hi, r :: L =>
    if ckBd o p lo hi r ≠ 0 then (L, ckBd o p lo hi r)
    else if r.rs ≠ 1 then (L, 0)
    else if (vfy o p n lo (up1 hi r.at_.toNat r.ct) L).2 ≠ 0 then vfy o p n lo (up1 hi r.at_.toNat r.ct) L
    else vfy o p n (up1 lo r.at_.toNat (r.ct + 1)) hi (vfy o p n lo (up1 hi r.at_.toNat r.ct) L).1
section
variable {o : Od} {lo hi b : Nat → Int} {p : Int}
theorem right_B {r : Bd} (h : ckBd o p lo hi r = 0) (h1 : r.rs ≠ 1) : Right o p lo hi r := by
  unfold ckBd at h
  rw [if_neg h1] at h
  split at h
  · cases h
  · rename_i h2
    split at h
    · cases h
    · rename_i h3
      split at h
      · rename_i h4
        unfold RightB at h4
        split at h4
        · exact .inl ⟨by assumption, h4⟩
        · split at h4
          · exact .inr (.inl ⟨by assumption, h4⟩)
          · split at h4
            · rename_i h5; exact .inr (.inr (.inl ⟨h5, by omega, by omega, h4⟩))
            · exact .inr (.inr (.inr ⟨by omega, h4⟩))
      · cases h
theorem ckBd_cut {r : Bd} (h : ckBd o p lo hi r = 0) (h1 : r.rs = 1) : 0 ≤ r.at_ ∧ r.at_ < o.bs.length ∧ lo r.at_.toNat ≤ r.ct ∧ r.ct < hi r.at_.toNat := by
  unfold ckBd at h
  rw [if_pos h1] at h
  split at h
  · cases h
  · split at h
    · cases h
    · omega
theorem ckBd_right {r : Bd} (h : Right o p lo hi r) : ckBd o p lo hi r = 0 ∧ r.rs ≠ 1 := by
  unfold ckBd
  rcases h with ⟨e, h⟩ | ⟨e, h⟩ | ⟨e, h0, h2, h⟩ | ⟨e, h⟩
  · rw [if_neg (by omega), if_neg (by omega), if_neg (by omega), if_pos (by unfold RightB; rw [if_pos e]; exact h)]; exact ⟨rfl, by omega⟩
  · rw [if_neg (by omega), if_neg (by omega), if_neg (by omega), if_pos (by unfold RightB; rw [if_neg (by omega), if_pos e]; exact h)]; exact ⟨rfl, by omega⟩
  · rw [if_neg (by omega), if_neg (by omega), if_neg (by omega), if_pos (by unfold RightB; rw [if_neg (by omega), if_neg (by omega), if_pos e]; exact h)]; exact ⟨rfl, by omega⟩
  · rw [if_neg (by omega), if_neg (by omega), if_neg (by omega), if_pos (by unfold RightB; rw [if_neg (by omega), if_neg (by omega), if_neg (by omega)]; exact h)]; exact ⟨rfl, by omega⟩
/-- What is right proves that no good blend costs less. -/
theorem vfy_sound (h : o.Ok) : ∀ (n : Nat) (lo hi : Nat → Int) (L : List Bd), (vfy o p n lo hi L).2 = 0 → NoneLess o p lo hi := by
  intro n
  induction n with
  | zero => intro lo hi L hv; simp [vfy] at hv
  | succ n ih =>
    intro lo hi L hv
    cases L with
    | nil => simp [vfy] at hv
    | cons r L =>
      unfold vfy at hv
      split at hv
      · rename_i h1; exact absurd hv h1
      · rename_i h1
        have h1 := Decidable.not_not.1 h1
        split at hv
        · rename_i h2; exact right_none h (right_B h1 h2)
        · rename_i h2
          have h2 := Decidable.not_not.1 h2
          split at hv
          · rename_i h3; exact absurd hv h3
          · rename_i h3
            have n1 := ih _ _ _ (Decidable.not_not.1 h3)
            have n2 := ih _ _ _ hv
            intro b hb hg
            rcases cut_split (m := r.at_.toNat) (c := r.ct) hb with h5 | h5
            · exact n1 b h5 hg
            · exact n2 b h5 hg
/-- What Prove returns is right. -/
theorem vfy_prf (h : o.Ok) : ∀ (n : Nat) (lo hi : Nat → Int) (L R : List Bd), BoxOk lo hi → (∀ i, o.bs.length ≤ i → lo i = hi i) → prf o p n lo hi = some L → vfy o p n lo hi (L ++ R) = (R, 0) := by
  intro n
  induction n with
  | zero => intro lo hi L R _ _ hp; simp [prf] at hp
  | succ n ih =>
    intro lo hi L R hb hz hp
    unfold prf at hp
    cases hr : reason o p lo hi with
    | some r =>
      rw [hr] at hp
      simp only [Option.some.injEq] at hp
      subst hp
      obtain ⟨e1, e2⟩ := ckBd_right (reason_right hr)
      simp only [List.cons_append, List.nil_append]
      unfold vfy
      rw [if_neg (fun h => h e1), if_pos e2]
    | none =>
      rw [hr] at hp
      cases h1 : one4 lo hi with
      | true => rw [h1] at hp; simp at hp
      | false =>
        rw [h1] at hp
        simp only [Bool.false_eq_true, if_false] at hp
        obtain ⟨hm4, hmn⟩ := mid_lt h1
        obtain ⟨c1, c2⟩ := cutAt_bd hb h1
        have hmb : mid lo hi < o.bs.length := Nat.lt_of_not_le fun h5 => hmn (hz _ h5)
        split at hp
        · rename_i x y hx hy
          simp only [Option.some.injEq] at hp
          subst hp
          have q0 : ckBd o p lo hi ⟨1, (mid lo hi : Int), cutAt lo hi⟩ = 0 := by
            unfold ckBd
            dsimp only
            rw [if_pos rfl, if_neg (by omega), if_neg (by rw [Int.toNat_natCast]; omega)]
          have j1 := ih lo (up1 hi (mid lo hi) (cutAt lo hi)) x (y ++ R) (hb.lower hm4 c1 c2) (fun i hi' => by
            have := hz i hi'
            unfold up1; rw [if_neg (by omega)]; exact this) hx
          have j2 := ih (up1 lo (mid lo hi) (cutAt lo hi + 1)) hi y R (hb.upper hm4 c1 c2) (fun i hi' => by
            have := hz i hi'
            unfold up1; rw [if_neg (by omega)]; exact this) hy
          simp only [List.cons_append, List.append_assoc]
          unfold vfy
          dsimp only
          rw [if_neg (fun h => h q0), if_neg (fun h => h rfl), Int.toNat_natCast, j1, if_neg (fun h => h rfl), j2]
        · cases hp
end
end Go.Proofs.Ytmemcopfeabcgaa
