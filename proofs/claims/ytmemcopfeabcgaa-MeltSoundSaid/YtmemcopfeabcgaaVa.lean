/- What reasons, plain proofs and checked proofs say: mathematics. -/
import Derived.Test.YtmemcopfeabcgaaOb
import Derived.Test.YtmemcopfeabcgaaFr
import Derived.Test.YtmemcopfeabcgaaCu
import Derived.Test.YtmemcopfeabcgaaPp
import Derived.Test.YtmemcopfeabcgaaEq
import Derived.Test.YtmemcopfeabcgaaKq
set_option linter.unusedSimpArgs false
set_option linter.unusedVariables false
namespace Go.Proofs.Ytmemcopfeabcgaa
open Go Go.RowKit
/-! What reasons and proofs say. -/
section
variable {o : Od} {lo hi b : Nat → Int} {p : Int}
/-- No good blend of a box costs less than p. -/
def NoneLess (o : Od) (p : Int) (lo hi : Nat → Int) : Prop := ∀ b, InB lo hi b → Good o b → p ≤ cst o b o.bs.length
theorem kil_mono {b d : Nat → Int} (h : o.Ok) (hle : ∀ i, i < 4 → b i ≤ d i) : kil o b o.bs.length ≤ kil o d o.bs.length :=
  sm_mono fun i hi => Int.mul_le_mul_of_nonneg_right (hle i (by have := h.b2; omega)) (by have := (h.bn hi).w1; omega)
theorem cst_mono {b d : Nat → Int} (h : o.Ok) (hle : ∀ i, i < 4 → b i ≤ d i) : cst o b o.bs.length ≤ cst o d o.bs.length :=
  sm_mono fun i hi => Int.mul_le_mul_of_nonneg_right (hle i (by have := h.b2; omega)) (h.bn hi).c1
theorem exX_ovr {j k : Nat} : exX o b j k = sm (fun i => b i * ovr o i j) k := sm_congr fun i _ => by unfold ovr; rw [Int.mul_assoc]
theorem mid_mul {x y z c : Int} (h1 : x ≤ y) (h2 : y ≤ z) : min (x * c) (z * c) ≤ y * c := by
  rcases Int.le_total 0 c with hc | hc
  · have := Int.mul_le_mul_of_nonneg_right h1 hc; omega
  · have := Int.mul_le_mul_of_nonpos_right h2 hc; omega
theorem brk_le (h : o.Ok) (hb : InB lo hi b) {j : Nat} : brk o lo hi j o.bs.length ≤ exX o b j o.bs.length := by
  rw [exX_ovr]
  exact sm_mono fun i hi => mid_mul (hb i (by have := h.b2; omega)).1 (hb i (by have := h.b2; omega)).2
theorem good_ex (hg : Good o b) {j : Nat} (hj : j < o.lm.length) : exX o b j o.bs.length ≤ 0 := by
  have hv := hg.2.2
  unfold kv at hv
  split at hv
  · cases hv
  · split at hv
    · cases hv
    · rename_i hx
      exact Int.not_lt.1 fun h3 => hx (by simp only [xk, List.any_eq_true, List.mem_range, decide_eq_true_eq]; exact ⟨j, hj, h3⟩)
/-- A reason is right. -/
def Right (o : Od) (p : Int) (lo hi : Nat → Int) (r : Bd) : Prop :=
  r.rs = 2 ∧ isL o hi = true ∨ r.rs = 3 ∧ isH o lo = true ∨ (r.rs = 4 ∧ 0 ≤ r.at_ ∧ r.at_ < o.lm.length ∧ isB o lo hi r.at_.toNat = true) ∨ r.rs = 5 ∧ isD o p lo = true
theorem right_none (h : o.Ok) {r : Bd} (hr : Right o p lo hi r) : NoneLess o p lo hi := by
  intro b hb hg
  rcases hr with ⟨_, h1⟩ | ⟨_, h1⟩ | ⟨_, h0, h2, h1⟩ | ⟨_, h1⟩
  · have := kil_mono h (fun i hi => (hb i hi).2)
    have h3 := hg.1
    simp only [isL, decide_eq_true_eq] at h1
    omega
  · have := kil_mono h (fun i hi => (hb i hi).1)
    have h3 := hg.2.1
    simp only [isH, decide_eq_true_eq] at h1
    omega
  · have h3 := brk_le h hb (j := r.at_.toNat)
    have h4 := good_ex hg (j := r.at_.toNat) (by omega)
    simp only [isB, decide_eq_true_eq] at h1
    omega
  · have := cst_mono h (fun i hi => (hb i hi).1)
    simp only [isD, decide_eq_true_eq] at h1
    omega
theorem reason_right {r : Bd} (hr : reason o p lo hi = some r) : Right o p lo hi r := by
  unfold reason at hr
  split at hr
  · rename_i h1; cases hr; exact .inl ⟨rfl, h1⟩
  · split at hr
    · rename_i h1; cases hr; exact .inr (.inl ⟨rfl, h1⟩)
    · split at hr
      · rename_i j hj
        cases hr
        have h1 := List.find?_some hj
        have h2 := List.mem_of_find?_eq_some hj
        rw [List.mem_range] at h2
        exact .inr (.inr (.inl ⟨rfl, Int.natCast_nonneg _, Int.ofNat_lt.2 h2, by simpa using h1⟩))
      · split at hr
        · rename_i h1; cases hr; exact .inr (.inr (.inr ⟨rfl, h1⟩))
        · cases hr
theorem one4_eq (h : one4 lo hi = true) {i : Nat} (hi4 : i < 4) : lo i = hi i := by
  simp only [one4, Bool.and_eq_true, beq_iff_eq] at h
  rcases four hi4 with rfl | rfl | rfl | rfl
  · exact h.1.1.1
  · exact h.1.1.2
  · exact h.1.2
  · exact h.2
/-- A box of one blend without a reason: the blend is good and costs less. -/
theorem reason_none (h : o.Ok) (hb : BoxOk lo hi) (hr : reason o p lo hi = none) (h1 : one4 lo hi = true) : Good o lo ∧ cst o lo o.bs.length < p := by
  have h4 := h.b2
  unfold reason at hr
  split at hr
  · cases hr
  · rename_i a1
    split at hr
    · cases hr
    · rename_i a2
      split at hr
      · cases hr
      · rename_i a3
        split at hr
        · cases hr
        · rename_i a4
          simp only [isL, decide_eq_true_eq] at a1
          simp only [isH, decide_eq_true_eq] at a2
          simp only [isD, decide_eq_true_eq] at a4
          rw [List.find?_eq_none] at a3
          have e1 : kil o hi o.bs.length = kil o lo o.bs.length := kil_four h4 fun i hi4 => (one4_eq h1 hi4).symm
          have hx : ∀ j, j < o.lm.length → exX o lo j o.bs.length ≤ 0 := fun j hj => by
            have := a3 j (List.mem_range.2 hj)
            simp only [isB, decide_eq_true_eq] at this
            have e : brk o lo hi j o.bs.length = exX o lo j o.bs.length := by
              rw [exX_ovr]
              exact sm_congr fun i hi' => by rw [one4_eq h1 (show i < 4 by omega)]; simp
            omega
          have hn : ¬ nk o lo o.lm.length = true := by
            simp only [nk, List.any_eq_true, List.mem_range, decide_eq_true_eq]
            rintro ⟨j, hj, h6⟩
            have := hx j hj
            have := exN_exX h hb.six (j := j) (Nat.le_refl o.bs.length); omega
          have hxx : ¬ xk o lo o.lm.length = true := by
            simp only [xk, List.any_eq_true, List.mem_range, decide_eq_true_eq]
            rintro ⟨j, hj, h6⟩
            have := hx j hj; omega
          exact ⟨⟨by omega, by omega, by unfold kv; rw [if_neg hn, if_neg hxx]⟩, by omega⟩
theorem cut_split {m : Nat} {c : Int} {b : Nat → Int} (hb : InB lo hi b) : InB lo (up1 hi m c) b ∨ InB (up1 lo m (c + 1)) hi b := by
  by_cases hm : b m ≤ c
  · refine .inl fun i hi4 => ?_
    have := hb i hi4
    unfold up1; split
    · rename_i e; subst e; exact ⟨this.1, hm⟩
    · exact this
  · refine .inr fun i hi4 => ?_
    have := hb i hi4
    unfold up1; split
    · rename_i e; subst e; exact ⟨by omega, this.2⟩
    · exact this
theorem in_lower {m : Nat} {c : Int} (hc : c ≤ hi m) (hb : InB lo (up1 hi m c) b) : InB lo hi b := fun i hi4 => by
  have := hb i hi4
  unfold up1 at this; split at this
  · rename_i e; subst e; omega
  · exact this
theorem in_upper {m : Nat} {c : Int} (hc : lo m ≤ c + 1) (hb : InB (up1 lo m (c + 1)) hi b) : InB lo hi b := fun i hi4 => by
  have := hb i hi4
  unfold up1 at this; split at this
  · rename_i e; subst e; omega
  · exact this
/-- There is a plain proof just if no good blend costs less. -/
theorem prf_some (h : o.Ok) : ∀ (n : Nat) (lo hi : Nat → Int), BoxOk lo hi → wid lo hi < n → ((∃ L, prf o p n lo hi = some L) ↔ NoneLess o p lo hi) := by
  intro n
  induction n with
  | zero => intro lo hi _ hw; omega
  | succ n ih =>
    intro lo hi hb hw
    unfold prf
    cases hr : reason o p lo hi with
    | some r => exact ⟨fun _ => right_none h (reason_right hr), fun _ => ⟨_, rfl⟩⟩
    | none =>
      cases h1 : one4 lo hi with
      | true =>
        obtain ⟨h2, h3⟩ := reason_none h hb hr h1
        refine ⟨fun ⟨L, hL⟩ => by simp at hL, fun hn => ?_⟩
        have := hn lo (fun i hi4 => ⟨Int.le_refl _, hb.le i hi4⟩) h2
        omega
      | false =>
        obtain ⟨hm4, _⟩ := mid_lt h1
        obtain ⟨c1, c2⟩ := cutAt_bd hb h1
        have i1 := ih lo (up1 hi (mid lo hi) (cutAt lo hi)) (hb.lower hm4 c1 c2) (by have := wid_lower hm4 c1 c2; omega)
        have i2 := ih (up1 lo (mid lo hi) (cutAt lo hi + 1)) hi (hb.upper hm4 c1 c2) (by have := wid_upper hm4 c1 c2; omega)
        simp only [Bool.false_eq_true, if_false]
        constructor
        · rintro ⟨L, hL⟩
          split at hL
          · rename_i x y hx hy
            have n1 := i1.1 ⟨x, hx⟩
            have n2 := i2.1 ⟨y, hy⟩
            intro b hb' hg
            rcases cut_split (m := mid lo hi) (c := cutAt lo hi) hb' with h5 | h5
            · exact n1 b h5 hg
            · exact n2 b h5 hg
          · cases hL
        · intro hn
          obtain ⟨x, hx⟩ := i1.2 fun b hb' hg => hn b (in_lower (by omega) hb') hg
          obtain ⟨y, hy⟩ := i2.2 fun b hb' hg => hn b (in_upper (by omega) hb') hg
          exact ⟨_, by rw [hx, hy]⟩
end
/-! Proofs that are checked. -/
def RightB (o : Od) (p : Int) (lo hi : Nat → Int) (r : Bd) : Bool :=
  if r.rs = 2 then isL o hi else if r.rs = 3 then isH o lo else if r.rs = 4 then isB o lo hi r.at_.toNat else isD o p lo
/-- The error of a bound, by itself. -/
def ckBd (o : Od) (p : Int) (lo hi : Nat → Int) (r : Bd) : Int :=
  if r.rs = 1 then (if r.at_ < 0 ∨ (o.bs.length : Int) - 1 < r.at_ then 3 else if r.ct < lo r.at_.toNat ∨ hi r.at_.toNat - 1 < r.ct then 1 else 0)
  else if r.rs = 4 ∧ (r.at_ < 0 ∨ (o.lm.length : Int) - 1 < r.at_) then 3
  else if r.rs ≠ 2 ∧ r.rs ≠ 3 ∧ r.rs ≠ 4 ∧ r.rs ≠ 5 then 8
  else if RightB o p lo hi r = true then 0 else 9
/-- What is left of a proof behind a box, and the error. -/
def vfy (o : Od) (p : Int) : Nat → (Nat → Int) → (Nat → Int) → List Bd → List Bd × Int
  | 0, _, _, L => (L, 2)
  | _ + 1, _, _, [] => ([], 2)
  | n + 1, lo, hi, r :: L =>
    if ckBd o p lo hi r ≠ 0 then (L, ckBd o p lo hi r)
    else if r.rs ≠ 1 then (L, 0)
    else if (vfy o p n lo (up1 hi r.at_.toNat r.ct) L).2 ≠ 0 then vfy o p n lo (up1 hi r.at_.toNat r.ct) L
    else vfy o p n (up1 lo r.at_.toNat (r.ct + 1)) hi (vfy o p n lo (up1 hi r.at_.toNat r.ct) L).1
section
variable {o : Od} {lo hi b : Nat → Int} {p : Int}
theorem right_B {r : Bd} (h : ckBd o p lo hi r = 0) (h1 : r.rs ≠ 1) : Right o p lo hi r := by
  unfold ckBd at h
  rw [if_neg h1] at h
  split at h
  · cases h
  · rename_i h2
    split at h
    · cases h
    · rename_i h3
      split at h
      · rename_i h4
        unfold RightB at h4
        split at h4
        · exact .inl ⟨by assumption, h4⟩
        · split at h4
          · exact .inr (.inl ⟨by assumption, h4⟩)
          · split at h4
            · rename_i h5; exact .inr (.inr (.inl ⟨h5, by omega, by omega, h4⟩))
            · exact .inr (.inr (.inr ⟨by omega, h4⟩))
      · cases h
theorem ckBd_cut {r : Bd} (h : ckBd o p lo hi r = 0) (h1 : r.rs = 1) : 0 ≤ r.at_ ∧ r.at_ < o.bs.length ∧ lo r.at_.toNat ≤ r.ct ∧ r.ct < hi r.at_.toNat := by
  unfold ckBd at h
  rw [if_pos h1] at h
  split at h
  · cases h
  · split at h
    · cases h
    · omega
theorem ckBd_right {r : Bd} (h : Right o p lo hi r) : ckBd o p lo hi r = 0 ∧ r.rs ≠ 1 := by
  unfold ckBd
  rcases h with ⟨e, h⟩ | ⟨e, h⟩ | ⟨e, h0, h2, h⟩ | ⟨e, h⟩
  · rw [if_neg (by omega), if_neg (by omega), if_neg (by omega), if_pos (by unfold RightB; rw [if_pos e]; exact h)]; exact ⟨rfl, by omega⟩
  · rw [if_neg (by omega), if_neg (by omega), if_neg (by omega), if_pos (by unfold RightB; rw [if_neg (by omega), if_pos e]; exact h)]; exact ⟨rfl, by omega⟩
  · rw [if_neg (by omega), if_neg (by omega), if_neg (by omega), if_pos (by unfold RightB; rw [if_neg (by omega), if_neg (by omega), if_pos e]; exact h)]; exact ⟨rfl, by omega⟩
  · rw [if_neg (by omega), if_neg (by omega), if_neg (by omega), if_pos (by unfold RightB; rw [if_neg (by omega), if_neg (by omega), if_neg (by omega)]; exact h)]; exact ⟨rfl, by omega⟩
/-- What is right proves that no good blend costs less. -/
theorem vfy_sound (h : o.Ok) : ∀ (n : Nat) (lo hi : Nat → Int) (L : List Bd), (vfy o p n lo hi L).2 = 0 → NoneLess o p lo hi := by
  intro n
  induction n with
  | zero => intro lo hi L hv; simp [vfy] at hv
  | succ n ih =>
    intro lo hi L hv
    cases L with
    | nil => simp [vfy] at hv
    | cons r L =>
      unfold vfy at hv
      split at hv
      · rename_i h1; exact absurd hv h1
      · rename_i h1
        have h1 := Decidable.not_not.1 h1
        split at hv
        · rename_i h2; exact right_none h (right_B h1 h2)
        · rename_i h2
          have h2 := Decidable.not_not.1 h2
          split at hv
          · rename_i h3; exact absurd hv h3
          · rename_i h3
            have n1 := ih _ _ _ (Decidable.not_not.1 h3)
            have n2 := ih _ _ _ hv
            intro b hb hg
            rcases cut_split (m := r.at_.toNat) (c := r.ct) hb with h5 | h5
            · exact n1 b h5 hg
            · exact n2 b h5 hg
/-- What Prove returns is right. -/
theorem vfy_prf (h : o.Ok) : ∀ (n : Nat) (lo hi : Nat → Int) (L R : List Bd), BoxOk lo hi → (∀ i, o.bs.length ≤ i → lo i = hi i) → prf o p n lo hi = some L → vfy o p n lo hi (L ++ R) = (R, 0) := by
  intro n
  induction n with
  | zero => intro lo hi L R _ _ hp; simp [prf] at hp
  | succ n ih =>
    intro lo hi L R hb hz hp
    unfold prf at hp
    cases hr : reason o p lo hi with
    | some r =>
      rw [hr] at hp
      simp only [Option.some.injEq] at hp
      subst hp
      obtain ⟨e1, e2⟩ := ckBd_right (reason_right hr)
      simp only [List.cons_append, List.nil_append]
      unfold vfy
      rw [if_neg (fun h => h e1), if_pos e2]
    | none =>
      rw [hr] at hp
      cases h1 : one4 lo hi with
      | true => rw [h1] at hp; simp at hp
      | false =>
        rw [h1] at hp
        simp only [Bool.false_eq_true, if_false] at hp
        obtain ⟨hm4, hmn⟩ := mid_lt h1
        obtain ⟨c1, c2⟩ := cutAt_bd hb h1
        have hmb : mid lo hi < o.bs.length := Nat.lt_of_not_le fun h5 => hmn (hz _ h5)
        split at hp
        · rename_i x y hx hy
          simp only [Option.some.injEq] at hp
          subst hp
          have q0 : ckBd o p lo hi ⟨1, (mid lo hi : Int), cutAt lo hi⟩ = 0 := by
            unfold ckBd
            dsimp only
            rw [if_pos rfl, if_neg (by omega), if_neg (by rw [Int.toNat_natCast]; omega)]
          have j1 := ih lo (up1 hi (mid lo hi) (cutAt lo hi)) x (y ++ R) (hb.lower hm4 c1 c2) (fun i hi' => by
            have := hz i hi'
            unfold up1; rw [if_neg (by omega)]; exact this) hx
          have j2 := ih (up1 lo (mid lo hi) (cutAt lo hi + 1)) hi y R (hb.upper hm4 c1 c2) (fun i hi' => by
            have := hz i hi'
            unfold up1; rw [if_neg (by omega)]; exact this) hy
          simp only [List.cons_append, List.append_assoc]
          unfold vfy
          dsimp only
          rw [if_neg (fun h => h q0), if_neg (fun h => h rfl), Int.toNat_natCast, j1, if_neg (fun h => h rfl), j2]
        · cases hp
end
end Go.Proofs.Ytmemcopfeabcgaa
set_option linter.unusedSimpArgs false
set_option linter.unusedVariables false
namespace Go.Proofs.Ytmemcopfeabcgaa
open Go Go.RowKit
set_option maxRecDepth 100000 in
set_option maxHeartbeats 4000000 in
theorem checkCut_any (LA : Option Addr) (ln lc : Nat) (BA : Option Addr) (bn bc : Nat) (o : Od) (p : Int) (lo hi : Nat → Int) (rs at_ ct : Int) (w : World) (h4 : bn ≤ 4) (hbx : BoxOk lo hi) :
    Calls Try.prog 100 #[.agg #[.slice LA ln lc, .int .i64 o.le, .int .i64 o.mo, .slice BA bn bc, .int .i64 p], .agg #[.int .i64 rs, .int .i64 at_, .int .i64 ct], .agg (xarr lo hi)] w fun e w' => e = .returned (.int .i64 (if at_ < 0 ∨ (bn : Int) - 1 < at_ then 3 else if ct < lo at_.toNat ∨ hi at_.toNat - 1 < ct then 1 else 0)) ∧ Below w.heap.size w w' := by
  have k1 := ((Bx.new w 100 #[.slice LA ln lc, .int .i64 o.le, .int .i64 o.mo, .slice BA bn bc, .int .i64 p]).alloc (.cells #[.int .i64 rs, .int .i64 at_, .int .i64 ct] 69)).alloc (.cells (xarr lo hi) 91)
  have k2 := (Bx.at (w.alloc (.cells #[.slice LA ln lc, .int .i64 o.le, .int .i64 o.mo, .slice BA bn bc, .int .i64 p] 100)) 69 #[.int .i64 rs, .int .i64 at_, .int .i64 ct] (n := w.heap.size + 1) (by simp)).alloc (.cells (xarr lo hi) 91)
  have k3 := Bx.at ((w.alloc (.cells #[.slice LA ln lc, .int .i64 o.le, .int .i64 o.mo, .slice BA bn bc, .int .i64 p] 100)).alloc (.cells #[.int .i64 rs, .int .i64 at_, .int .i64 ct] 69)) 91 (xarr lo hi) (n := w.heap.size + 1 + 1) (by simp)
  have B0 := (((Below.refl w.heap.size w).alloc (Nat.le_refl _) (.cells #[.slice LA ln lc, .int .i64 o.le, .int .i64 o.mo, .slice BA bn bc, .int .i64 p] 100)).alloc (by simp) (.cells #[.int .i64 rs, .int .i64 at_, .int .i64 ct] 69)).alloc (by simp; omega) (.cells (xarr lo hi) 91)
  obtain ⟨W1, hW1⟩ : ∃ W1, ((w.alloc (.cells #[.slice LA ln lc, .int .i64 o.le, .int .i64 o.mo, .slice BA bn bc, .int .i64 p] 100)).alloc (.cells #[.int .i64 rs, .int .i64 at_, .int .i64 ct] 69)).alloc (.cells (xarr lo hi) 91) = W1 := ⟨_, rfl⟩
  rw [hW1] at k1 k2 k3 B0
  have HW := Lib.hid hW1
  clear hW1
  have hbw : IntKind.i64.wrap ((bn : Int) - 1) = (bn : Int) - 1 := IntWalk.i64_in _ (by omega)
  obtain ⟨c0, c1, c2, c3, c4, cf, cz⟩ := k1.five
  obtain ⟨b0, b1, b2, bf, bz⟩ := k2.three
  by_cases hr : at_ < 0 ∨ (bn : Int) - 1 < at_
  · rw [if_pos hr]
    go_enter Try.func100, Try.ntmps100
    go_wp2_with (go_at_call 81; rw [HW.out]; refine (isWithin_no _ _ _ _ (by omega)).mono ?_; rintro e w1 ⟨rfl, hb1⟩)
    go_ret
    exact ⟨rfl, B0.trans (hb1.mono B0.size)⟩
  · rw [if_neg hr]
    obtain ⟨m, rfl⟩ : ∃ m : Nat, at_ = m := ⟨at_.toNat, by omega⟩
    have hm : m < bn := by omega
    have hm4 : m < 4 := by omega
    rw [Int.toNat_natCast]
    clear hr
    by_cases hc : ct < lo m ∨ hi m - 1 < ct
    · rw [if_pos hc]
      have hm4i : (m : Int) < 4 := by omega
      have h6 := hbx.six2 m
      have hlw : IntKind.i64.wrap (hi m - 1) = hi m - 1 := IntWalk.i64_in _ (by omega)
      go_enter Try.func100, Try.ntmps100
      go_wp2_with (first | (go_at_call 81; rw [HW.out]; refine (isWithin_yes _ _ _ _ (by omega)).mono ?_; rintro e w1 ⟨rfl, hb1⟩) | fail)
      replace k1 := k1.call hb1
      replace k2 := k2.call hb1
      replace k3 := k3.call hb1
      have B1 := B0.trans (hb1.mono B0.size)
      clear c0 c1 c2 c3 c4 cf cz b0 b1 b2 bf bz B0 hb1
      refine AnyG.startC (by kernel_rfl) ?_
      refine AnyG.takeP (i := 0) (v := ?_) rfl (by kernel_rfl) (fun _ _ _ h => h) rfl ?_ ?_
      rotate_left
      · (intro w'; go_simp; try with_reducible rfl)
      try simp only [Act.put, List.getElem_toArray, List.getElem_cons_succ, List.getElem_cons_zero, List.setIfInBounds_toArray, List.set_cons_zero, List.set_cons_succ]
      refine AnyG.takeP (i := 2) (v := ?_) rfl (by kernel_rfl) (fun _ _ _ h => h) rfl ?_ ?_
      rotate_left
      · (intro w'; go_simp; try with_reducible rfl)
      try simp only [Act.put, List.getElem_toArray, List.getElem_cons_succ, List.getElem_cons_zero, List.setIfInBounds_toArray, List.set_cons_zero, List.set_cons_succ]
      refine AnyG.takeP (i := 7) (v := ?_) rfl (by kernel_rfl) (fun _ _ _ h => h) rfl ?_ ?_
      rotate_left
      · (intro w'; go_simp; try with_reducible rfl)
      try simp only [Act.put, List.getElem_toArray, List.getElem_cons_succ, List.getElem_cons_zero, List.setIfInBounds_toArray, List.set_cons_zero, List.set_cons_succ]
      refine AnyG.enter (fun w' : World => Below w1.heap.size w1 w') (fun i => true) ?_
      have hS : (fun w' : World => Below w1.heap.size w1 w') (World.drew _) := (Below.refl _ _).drew
      refine AnyG.takeC (i := 1) (v := ?_) rfl (by kernel_rfl) (fun _ _ _ h => h) rfl ?_ hS ?_
      rotate_left
      · (intro w' hSw; (try dsimp only at hSw); obtain ⟨b0, b1, b2, bf, bz⟩ := (k2.call hSw).three; go_simp; try with_reducible rfl)
      try simp only [Act.put, List.getElem_toArray, List.getElem_cons_succ, List.getElem_cons_zero, List.setIfInBounds_toArray, List.set_cons_zero, List.set_cons_succ]
      refine AnyG.takeC (i := 3) (v := ?_) rfl (by kernel_rfl) (fun _ _ _ h => h) rfl ?_ hS ?_
      rotate_left
      · (intro w' hSw; (try dsimp only at hSw); obtain ⟨b0, b1, b2, bf, bz⟩ := (k2.call hSw).three; go_simp; try with_reducible rfl)
      try simp only [Act.put, List.getElem_toArray, List.getElem_cons_succ, List.getElem_cons_zero, List.setIfInBounds_toArray, List.set_cons_zero, List.set_cons_succ]
      refine AnyG.takeC (i := 4) (v := ?_) rfl (by kernel_rfl) (fun _ _ _ h => h) rfl ?_ hS ?_
      rotate_left
      · (intro w' hSw; (try dsimp only at hSw); go_simp; try with_reducible rfl)
      try simp only [Act.put, List.getElem_toArray, List.getElem_cons_succ, List.getElem_cons_zero, List.setIfInBounds_toArray, List.set_cons_zero, List.set_cons_succ]
      refine AnyG.takeC (i := 5) (v := ?_) rfl (by kernel_rfl) (fun _ _ _ h => h) rfl ?_ hS ?_
      rotate_left
      · (intro w' hSw; (try dsimp only at hSw); go_simp; try with_reducible rfl)
      try simp only [Act.put, List.getElem_toArray, List.getElem_cons_succ, List.getElem_cons_zero, List.setIfInBounds_toArray, List.set_cons_zero, List.set_cons_succ]
      refine AnyG.takeC (i := 6) (v := ?_) rfl (by kernel_rfl) (fun _ _ _ h => h) rfl ?_ hS ?_
      rotate_left
      · (intro w' hSw; (try dsimp only at hSw); have x0 := ((k3.call hSw).cell (m * 2)).trans (xarr_lo lo hi hm4); have x1 := ((k3.call hSw).cell (m * 2 + 1)).trans (xarr_hi lo hi hm4); go_simp; try with_reducible rfl)
      try simp only [Act.put, List.getElem_toArray, List.getElem_cons_succ, List.getElem_cons_zero, List.setIfInBounds_toArray, List.set_cons_zero, List.set_cons_succ]
      refine AnyG.takeC (i := 8) (v := ?_) rfl (by kernel_rfl) (fun _ _ _ h => h) rfl ?_ hS ?_
      rotate_left
      · (intro w' hSw; (try dsimp only at hSw); obtain ⟨b0, b1, b2, bf, bz⟩ := (k2.call hSw).three; go_simp; try with_reducible rfl)
      try simp only [Act.put, List.getElem_toArray, List.getElem_cons_succ, List.getElem_cons_zero, List.setIfInBounds_toArray, List.set_cons_zero, List.set_cons_succ]
      refine AnyG.takeC (i := 9) (v := ?_) rfl (by kernel_rfl) (fun _ _ _ h => h) rfl ?_ hS ?_
      rotate_left
      · (intro w' hSw; (try dsimp only at hSw); go_simp; try with_reducible rfl)
      try simp only [Act.put, List.getElem_toArray, List.getElem_cons_succ, List.getElem_cons_zero, List.setIfInBounds_toArray, List.set_cons_zero, List.set_cons_succ]
      refine AnyG.takeC (i := 10) (v := ?_) rfl (by kernel_rfl) (fun _ _ _ h => h) rfl ?_ hS ?_
      rotate_left
      · (intro w' hSw; (try dsimp only at hSw); go_simp; try with_reducible rfl)
      try simp only [Act.put, List.getElem_toArray, List.getElem_cons_succ, List.getElem_cons_zero, List.setIfInBounds_toArray, List.set_cons_zero, List.set_cons_succ]
      refine AnyG.takeC (i := 11) (v := ?_) rfl (by kernel_rfl) (fun _ _ _ h => h) rfl ?_ hS ?_
      rotate_left
      · (intro w' hSw; (try dsimp only at hSw); have x0 := ((k3.call hSw).cell (m * 2)).trans (xarr_lo lo hi hm4); have x1 := ((k3.call hSw).cell (m * 2 + 1)).trans (xarr_hi lo hi hm4); go_simp; try with_reducible rfl)
      try simp only [Act.put, List.getElem_toArray, List.getElem_cons_succ, List.getElem_cons_zero, List.setIfInBounds_toArray, List.set_cons_zero, List.set_cons_succ]
      refine AnyG.takeC (i := 12) (v := ?_) rfl (by kernel_rfl) (fun _ _ _ h => h) rfl ?_ hS ?_
      rotate_left
      · (intro w' hSw; (try dsimp only at hSw); go_simp; try with_reducible rfl)
      try simp only [Act.put, List.getElem_toArray, List.getElem_cons_succ, List.getElem_cons_zero, List.setIfInBounds_toArray, List.set_cons_zero, List.set_cons_succ]
      refine AnyG.one (i := 13) (by kernel_rfl) rfl rfl ?_
      go_simp
      refine (isWithin_no _ _ _ _ (by omega)).mono ?_
      rintro e5 y5 ⟨rfl, hb5⟩
      refine Onward.on (hS.trans (hb5.mono hS.size)) (fun hS2 => ?_)
      clear hS
      have hS := hS2
      clear hS2
      try simp only [Act.put, List.getElem_toArray, List.getElem_cons_succ, List.getElem_cons_zero, List.setIfInBounds_toArray, List.set_cons_zero, List.set_cons_succ]
      refine AnyG.takeC (i := 14) (v := ?_) rfl (by kernel_rfl) (fun _ _ _ h => h) rfl ?_ hS ?_
      rotate_left
      · (intro w' hSw; (try dsimp only at hSw); go_simp; try with_reducible rfl)
      try simp only [Act.put, List.getElem_toArray, List.getElem_cons_succ, List.getElem_cons_zero, List.setIfInBounds_toArray, List.set_cons_zero, List.set_cons_succ]
      refine AnyG.done (by kernel_rfl) ?_ _
      go_simp
      have hB2 := B1.trans (hS.mono B1.size)
      go_wp2_with fail
      go_ret
      exact ⟨rfl, hB2⟩
    · rw [if_neg hc]
      have hm4i : (m : Int) < 4 := by omega
      have h6 := hbx.six2 m
      have hlw : IntKind.i64.wrap (hi m - 1) = hi m - 1 := IntWalk.i64_in _ (by omega)
      go_enter Try.func100, Try.ntmps100
      go_wp2_with (first | (go_at_call 81; rw [HW.out]; refine (isWithin_yes _ _ _ _ (by omega)).mono ?_; rintro e w1 ⟨rfl, hb1⟩) | fail)
      replace k1 := k1.call hb1
      replace k2 := k2.call hb1
      replace k3 := k3.call hb1
      have B1 := B0.trans (hb1.mono B0.size)
      clear c0 c1 c2 c3 c4 cf cz b0 b1 b2 bf bz B0 hb1
      refine AnyG.startC (by kernel_rfl) ?_
      refine AnyG.takeP (i := 0) (v := ?_) rfl (by kernel_rfl) (fun _ _ _ h => h) rfl ?_ ?_
      rotate_left
      · (intro w'; go_simp; try with_reducible rfl)
      try simp only [Act.put, List.getElem_toArray, List.getElem_cons_succ, List.getElem_cons_zero, List.setIfInBounds_toArray, List.set_cons_zero, List.set_cons_succ]
      refine AnyG.takeP (i := 2) (v := ?_) rfl (by kernel_rfl) (fun _ _ _ h => h) rfl ?_ ?_
      rotate_left
      · (intro w'; go_simp; try with_reducible rfl)
      try simp only [Act.put, List.getElem_toArray, List.getElem_cons_succ, List.getElem_cons_zero, List.setIfInBounds_toArray, List.set_cons_zero, List.set_cons_succ]
      refine AnyG.takeP (i := 7) (v := ?_) rfl (by kernel_rfl) (fun _ _ _ h => h) rfl ?_ ?_
      rotate_left
      · (intro w'; go_simp; try with_reducible rfl)
      try simp only [Act.put, List.getElem_toArray, List.getElem_cons_succ, List.getElem_cons_zero, List.setIfInBounds_toArray, List.set_cons_zero, List.set_cons_succ]
      refine AnyG.enter (fun w' : World => Below w1.heap.size w1 w') (fun i => true) ?_
      have hS : (fun w' : World => Below w1.heap.size w1 w') (World.drew _) := (Below.refl _ _).drew
      refine AnyG.takeC (i := 1) (v := ?_) rfl (by kernel_rfl) (fun _ _ _ h => h) rfl ?_ hS ?_
      rotate_left
      · (intro w' hSw; (try dsimp only at hSw); obtain ⟨b0, b1, b2, bf, bz⟩ := (k2.call hSw).three; go_simp; try with_reducible rfl)
      try simp only [Act.put, List.getElem_toArray, List.getElem_cons_succ, List.getElem_cons_zero, List.setIfInBounds_toArray, List.set_cons_zero, List.set_cons_succ]
      refine AnyG.takeC (i := 3) (v := ?_) rfl (by kernel_rfl) (fun _ _ _ h => h) rfl ?_ hS ?_
      rotate_left
      · (intro w' hSw; (try dsimp only at hSw); obtain ⟨b0, b1, b2, bf, bz⟩ := (k2.call hSw).three; go_simp; try with_reducible rfl)
      try simp only [Act.put, List.getElem_toArray, List.getElem_cons_succ, List.getElem_cons_zero, List.setIfInBounds_toArray, List.set_cons_zero, List.set_cons_succ]
      refine AnyG.takeC (i := 4) (v := ?_) rfl (by kernel_rfl) (fun _ _ _ h => h) rfl ?_ hS ?_
      rotate_left
      · (intro w' hSw; (try dsimp only at hSw); go_simp; try with_reducible rfl)
      try simp only [Act.put, List.getElem_toArray, List.getElem_cons_succ, List.getElem_cons_zero, List.setIfInBounds_toArray, List.set_cons_zero, List.set_cons_succ]
      refine AnyG.takeC (i := 5) (v := ?_) rfl (by kernel_rfl) (fun _ _ _ h => h) rfl ?_ hS ?_
      rotate_left
      · (intro w' hSw; (try dsimp only at hSw); go_simp; try with_reducible rfl)
      try simp only [Act.put, List.getElem_toArray, List.getElem_cons_succ, List.getElem_cons_zero, List.setIfInBounds_toArray, List.set_cons_zero, List.set_cons_succ]
      refine AnyG.takeC (i := 6) (v := ?_) rfl (by kernel_rfl) (fun _ _ _ h => h) rfl ?_ hS ?_
      rotate_left
      · (intro w' hSw; (try dsimp only at hSw); have x0 := ((k3.call hSw).cell (m * 2)).trans (xarr_lo lo hi hm4); have x1 := ((k3.call hSw).cell (m * 2 + 1)).trans (xarr_hi lo hi hm4); go_simp; try with_reducible rfl)
      try simp only [Act.put, List.getElem_toArray, List.getElem_cons_succ, List.getElem_cons_zero, List.setIfInBounds_toArray, List.set_cons_zero, List.set_cons_succ]
      refine AnyG.takeC (i := 8) (v := ?_) rfl (by kernel_rfl) (fun _ _ _ h => h) rfl ?_ hS ?_
      rotate_left
      · (intro w' hSw; (try dsimp only at hSw); obtain ⟨b0, b1, b2, bf, bz⟩ := (k2.call hSw).three; go_simp; try with_reducible rfl)
      try simp only [Act.put, List.getElem_toArray, List.getElem_cons_succ, List.getElem_cons_zero, List.setIfInBounds_toArray, List.set_cons_zero, List.set_cons_succ]
      refine AnyG.takeC (i := 9) (v := ?_) rfl (by kernel_rfl) (fun _ _ _ h => h) rfl ?_ hS ?_
      rotate_left
      · (intro w' hSw; (try dsimp only at hSw); go_simp; try with_reducible rfl)
      try simp only [Act.put, List.getElem_toArray, List.getElem_cons_succ, List.getElem_cons_zero, List.setIfInBounds_toArray, List.set_cons_zero, List.set_cons_succ]
      refine AnyG.takeC (i := 10) (v := ?_) rfl (by kernel_rfl) (fun _ _ _ h => h) rfl ?_ hS ?_
      rotate_left
      · (intro w' hSw; (try dsimp only at hSw); go_simp; try with_reducible rfl)
      try simp only [Act.put, List.getElem_toArray, List.getElem_cons_succ, List.getElem_cons_zero, List.setIfInBounds_toArray, List.set_cons_zero, List.set_cons_succ]
      refine AnyG.takeC (i := 11) (v := ?_) rfl (by kernel_rfl) (fun _ _ _ h => h) rfl ?_ hS ?_
      rotate_left
      · (intro w' hSw; (try dsimp only at hSw); have x0 := ((k3.call hSw).cell (m * 2)).trans (xarr_lo lo hi hm4); have x1 := ((k3.call hSw).cell (m * 2 + 1)).trans (xarr_hi lo hi hm4); go_simp; try with_reducible rfl)
      try simp only [Act.put, List.getElem_toArray, List.getElem_cons_succ, List.getElem_cons_zero, List.setIfInBounds_toArray, List.set_cons_zero, List.set_cons_succ]
      refine AnyG.takeC (i := 12) (v := ?_) rfl (by kernel_rfl) (fun _ _ _ h => h) rfl ?_ hS ?_
      rotate_left
      · (intro w' hSw; (try dsimp only at hSw); go_simp; try with_reducible rfl)
      try simp only [Act.put, List.getElem_toArray, List.getElem_cons_succ, List.getElem_cons_zero, List.setIfInBounds_toArray, List.set_cons_zero, List.set_cons_succ]
      refine AnyG.one (i := 13) (by kernel_rfl) rfl rfl ?_
      go_simp
      refine (isWithin_yes _ _ _ _ (by omega)).mono ?_
      rintro e5 y5 ⟨rfl, hb5⟩
      refine Onward.on (hS.trans (hb5.mono hS.size)) (fun hS2 => ?_)
      clear hS
      have hS := hS2
      clear hS2
      try simp only [Act.put, List.getElem_toArray, List.getElem_cons_succ, List.getElem_cons_zero, List.setIfInBounds_toArray, List.set_cons_zero, List.set_cons_succ]
      refine AnyG.takeC (i := 14) (v := ?_) rfl (by kernel_rfl) (fun _ _ _ h => h) rfl ?_ hS ?_
      rotate_left
      · (intro w' hSw; (try dsimp only at hSw); go_simp; try with_reducible rfl)
      try simp only [Act.put, List.getElem_toArray, List.getElem_cons_succ, List.getElem_cons_zero, List.setIfInBounds_toArray, List.set_cons_zero, List.set_cons_succ]
      refine AnyG.done (by kernel_rfl) ?_ _
      go_simp
      have hB2 := B1.trans (hS.mono B1.size)
      go_wp2_with fail
      go_ret
      exact ⟨rfl, hB2⟩
set_option maxRecDepth 100000 in
set_option maxHeartbeats 4000000 in
theorem checkBound_any (LA : Option Addr) (ln lc : Nat) (BA : Option Addr) (bn bc : Nat) (o : Od) (p : Int) (lo hi : Nat → Int) (rs at_ ct : Int) (w : World) (hl : o.lm.length = ln) (hb' : o.bs.length = bn) (hA : OrdAt w w.heap.size LA BA o) (ho : o.Ok) (hbx : BoxOk lo hi) :
    Calls Try.prog 90 #[.agg #[.slice LA ln lc, .int .i64 o.le, .int .i64 o.mo, .slice BA bn bc, .int .i64 p], .agg #[.int .i64 rs, .int .i64 at_, .int .i64 ct], .agg (xarr lo hi)] w fun e w' => e = .returned (.int .i64 (ckBd o p lo hi ⟨rs, at_, ct⟩)) ∧ Below w.heap.size w w' := by
  have hln3 : ln ≤ 3 := by rw [← hl]; exact ho.lm
  have hbn4 : bn ≤ 4 := by rw [← hb']; exact ho.b2
  have k1 := ((Bx.new w 100 #[.slice LA ln lc, .int .i64 o.le, .int .i64 o.mo, .slice BA bn bc, .int .i64 p]).alloc (.cells #[.int .i64 rs, .int .i64 at_, .int .i64 ct] 69)).alloc (.cells (xarr lo hi) 91)
  have k2 := (Bx.at (w.alloc (.cells #[.slice LA ln lc, .int .i64 o.le, .int .i64 o.mo, .slice BA bn bc, .int .i64 p] 100)) 69 #[.int .i64 rs, .int .i64 at_, .int .i64 ct] (n := w.heap.size + 1) (by simp)).alloc (.cells (xarr lo hi) 91)
  have k3 := Bx.at ((w.alloc (.cells #[.slice LA ln lc, .int .i64 o.le, .int .i64 o.mo, .slice BA bn bc, .int .i64 p] 100)).alloc (.cells #[.int .i64 rs, .int .i64 at_, .int .i64 ct] 69)) 91 (xarr lo hi) (n := w.heap.size + 1 + 1) (by simp)
  have B0 := (((Below.refl w.heap.size w).alloc (Nat.le_refl _) (.cells #[.slice LA ln lc, .int .i64 o.le, .int .i64 o.mo, .slice BA bn bc, .int .i64 p] 100)).alloc (by simp) (.cells #[.int .i64 rs, .int .i64 at_, .int .i64 ct] 69)).alloc (by simp; omega) (.cells (xarr lo hi) 91)
  obtain ⟨W1, hW1⟩ : ∃ W1, ((w.alloc (.cells #[.slice LA ln lc, .int .i64 o.le, .int .i64 o.mo, .slice BA bn bc, .int .i64 p] 100)).alloc (.cells #[.int .i64 rs, .int .i64 at_, .int .i64 ct] 69)).alloc (.cells (xarr lo hi) 91) = W1 := ⟨_, rfl⟩
  rw [hW1] at k1 k2 k3 B0
  have HW := Lib.hid hW1
  clear hW1
  have hAW := (hA.below B0).more B0.size
  have HL := Lib.hid hl
  have HB := Lib.hid hb'
  have HO := Lib.hid ho
  have HX := Lib.hid hbx
  have hlw : IntKind.i64.wrap ((ln : Int) - 1) = (ln : Int) - 1 := IntWalk.i64_in _ (by omega)
  clear hl hb' ho hbx hA
  obtain ⟨c0, c1, c2, c3, c4, cf, cz⟩ := k1.five
  obtain ⟨b0, b1, b2, bf, bz⟩ := k2.three
  by_cases h1 : rs = 1
  · subst h1
    have hck : ckBd o p lo hi ⟨1, at_, ct⟩ = (if at_ < 0 ∨ (bn : Int) - 1 < at_ then 3 else if ct < lo at_.toNat ∨ hi at_.toNat - 1 < ct then 1 else 0) := by simp only [ckBd, if_true, HB.out]
    have HCK := Lib.hid hck
    clear hck
    obtain ⟨p0, p1, p2, p3, p4, p5, p6, p7, pf, pz⟩ := k3.xarr
    go_enter Try.func90, Try.ntmps90
    go_upto_region 4 with fail
    rw [HW.out]
    go_wp2_with (go_at_call 100; rw [← xarr_def lo hi]; refine (checkCut_any LA ln lc BA bn bc o p lo hi 1 at_ ct _ hbn4 HX.out).mono ?_; rintro e w1 ⟨rfl, hb1⟩; rw [← HCK.out])
    go_ret
    exact ⟨rfl, B0.trans (hb1.mono B0.size)⟩
  · by_cases h2 : rs = 2
    · subst h2
      have hwk : IntKind.i64.wrap 0 = 0 := IntWalk.i64_in _ (by omega)
      cases hv : isL o hi
      · have HV := Lib.hid hv
        have hck : ckBd o p lo hi ⟨2, at_, ct⟩ = 9 := by simp [ckBd, RightB, hv]
        rw [hck]
        clear hck hv
        go_enter Try.func90, Try.ntmps90
        go_upto_region 11 with fail
        rw [HW.out]
        clear c0 c1 c2 c3 c4 cf cz b0 b1 b2 bf bz
        go_wp2_with fail
        refine AnyG.startC (by kernel_rfl) ?_
        refine AnyG.takeP (i := 1) (v := ?_) rfl (by kernel_rfl) (fun _ _ _ h => h) rfl ?_ ?_
        rotate_left
        · (intro w'; go_simp; try with_reducible rfl)
        try simp only [Act.put, List.getElem_toArray, List.getElem_cons_succ, List.getElem_cons_zero, List.setIfInBounds_toArray, List.set_cons_zero, List.set_cons_succ]
        refine AnyG.enter (fun w' : World => Below W1.heap.size W1 w') (fun i => true) ?_
        have hS : (fun w' : World => Below W1.heap.size W1 w') (World.drew _) := (Below.refl _ _).drew
        refine AnyG.takeC (i := 2) (v := ?_) rfl (by kernel_rfl) (fun _ _ _ h => h) rfl ?_ hS ?_
        rotate_left
        · (intro w' hSw; (try dsimp only at hSw); obtain ⟨b0, b1, b2, bf, bz⟩ := (k2.call hSw).three; go_simp; try with_reducible rfl)
        try simp only [Act.put, List.getElem_toArray, List.getElem_cons_succ, List.getElem_cons_zero, List.setIfInBounds_toArray, List.set_cons_zero, List.set_cons_succ]
        refine AnyG.takeC (i := 3) (v := ?_) rfl (by kernel_rfl) (fun _ _ _ h => h) rfl ?_ hS ?_
        rotate_left
        · (intro w' hSw; (try dsimp only at hSw); go_simp; try with_reducible rfl)
        try simp only [Act.put, List.getElem_toArray, List.getElem_cons_succ, List.getElem_cons_zero, List.setIfInBounds_toArray, List.set_cons_zero, List.set_cons_succ]
        refine AnyG.one (i := 0) (by kernel_rfl) rfl rfl ?_
        go_simp
        refine (reasons_any _).mono ?_
        rintro e1 y1 ⟨⟨rfl, k4⟩, hbr⟩
        refine Onward.on (hS.trans (hbr.mono hS.size)) (fun hS2 => ?_)
        clear hS
        have hS := hS2
        clear hS2
        try simp only [Act.put, List.getElem_toArray, List.getElem_cons_succ, List.getElem_cons_zero, List.setIfInBounds_toArray, List.set_cons_zero, List.set_cons_succ]
        refine AnyG.takeC (i := 4) (v := ?_) rfl (by kernel_rfl) (fun _ _ _ h => h) rfl ?_ hS ?_
        rotate_left
        · (intro w' hSw; (try dsimp only at hSw); go_simp; try with_reducible rfl)
        try simp only [Act.put, List.getElem_toArray, List.getElem_cons_succ, List.getElem_cons_zero, List.setIfInBounds_toArray, List.set_cons_zero, List.set_cons_succ]
        refine AnyG.one (i := 5) (by kernel_rfl) rfl rfl ?_
        have k5 : Bx y1 W1.heap.size 139 _ := k4
        obtain ⟨f0, f1, f2, f3, ff, fz⟩ := k5.four
        go_simp
        refine Onward.on hS (fun hS2 => ?_)
        clear hS
        have hS := hS2
        clear hS2
        try simp only [Act.put, List.getElem_toArray, List.getElem_cons_succ, List.getElem_cons_zero, List.setIfInBounds_toArray, List.set_cons_zero, List.set_cons_succ]
        refine AnyG.takeC (i := 6) (v := ?_) rfl (by kernel_rfl) (fun _ _ _ h => h) rfl ?_ hS ?_
        rotate_left
        · (intro w' hSw; (try dsimp only at hSw); go_simp; try with_reducible rfl)
        try simp only [Act.put, List.getElem_toArray, List.getElem_cons_succ, List.getElem_cons_zero, List.setIfInBounds_toArray, List.set_cons_zero, List.set_cons_succ]
        refine AnyG.done (by kernel_rfl) ?_ _
        have hS1 : Below W1.heap.size W1 y1 := hS
        clear hS
        go_simp
        replace k1 := k1.call hS1
        replace k2 := k2.call hS1
        replace k3 := k3.call hS1
        replace hAW := hAW.call hS1
        have B1 := B0.trans (hS1.mono B0.size)
        obtain ⟨c0, c1, c2, c3, c4, cf, cz⟩ := k1.five
        obtain ⟨b0, b1, b2, bf, bz⟩ := k2.three
        obtain ⟨p0, p1, p2, p3, p4, p5, p6, p7, pf, pz⟩ := k3.xarr
        go_wp2_with (first | (go_at_call 104; rw [← xarr_def lo hi]; refine (isLight_any LA ln lc BA bn bc o p lo hi at_ _ HL.out HB.out hAW HO.out HX.out).mono ?_; rintro e w5 ⟨rfl, hbz⟩; rw [HV.out]) | fail)
        go_ret
        exact ⟨rfl, B1.trans (hbz.mono B1.size)⟩
      · have HV := Lib.hid hv
        have hck : ckBd o p lo hi ⟨2, at_, ct⟩ = 0 := by simp [ckBd, RightB, hv]
        rw [hck]
        clear hck hv
        go_enter Try.func90, Try.ntmps90
        go_upto_region 11 with fail
        rw [HW.out]
        clear c0 c1 c2 c3 c4 cf cz b0 b1 b2 bf bz
        go_wp2_with fail
        refine AnyG.startC (by kernel_rfl) ?_
        refine AnyG.takeP (i := 1) (v := ?_) rfl (by kernel_rfl) (fun _ _ _ h => h) rfl ?_ ?_
        rotate_left
        · (intro w'; go_simp; try with_reducible rfl)
        try simp only [Act.put, List.getElem_toArray, List.getElem_cons_succ, List.getElem_cons_zero, List.setIfInBounds_toArray, List.set_cons_zero, List.set_cons_succ]
        refine AnyG.enter (fun w' : World => Below W1.heap.size W1 w') (fun i => true) ?_
        have hS : (fun w' : World => Below W1.heap.size W1 w') (World.drew _) := (Below.refl _ _).drew
        refine AnyG.takeC (i := 2) (v := ?_) rfl (by kernel_rfl) (fun _ _ _ h => h) rfl ?_ hS ?_
        rotate_left
        · (intro w' hSw; (try dsimp only at hSw); obtain ⟨b0, b1, b2, bf, bz⟩ := (k2.call hSw).three; go_simp; try with_reducible rfl)
        try simp only [Act.put, List.getElem_toArray, List.getElem_cons_succ, List.getElem_cons_zero, List.setIfInBounds_toArray, List.set_cons_zero, List.set_cons_succ]
        refine AnyG.takeC (i := 3) (v := ?_) rfl (by kernel_rfl) (fun _ _ _ h => h) rfl ?_ hS ?_
        rotate_left
        · (intro w' hSw; (try dsimp only at hSw); go_simp; try with_reducible rfl)
        try simp only [Act.put, List.getElem_toArray, List.getElem_cons_succ, List.getElem_cons_zero, List.setIfInBounds_toArray, List.set_cons_zero, List.set_cons_succ]
        refine AnyG.one (i := 0) (by kernel_rfl) rfl rfl ?_
        go_simp
        refine (reasons_any _).mono ?_
        rintro e1 y1 ⟨⟨rfl, k4⟩, hbr⟩
        refine Onward.on (hS.trans (hbr.mono hS.size)) (fun hS2 => ?_)
        clear hS
        have hS := hS2
        clear hS2
        try simp only [Act.put, List.getElem_toArray, List.getElem_cons_succ, List.getElem_cons_zero, List.setIfInBounds_toArray, List.set_cons_zero, List.set_cons_succ]
        refine AnyG.takeC (i := 4) (v := ?_) rfl (by kernel_rfl) (fun _ _ _ h => h) rfl ?_ hS ?_
        rotate_left
        · (intro w' hSw; (try dsimp only at hSw); go_simp; try with_reducible rfl)
        try simp only [Act.put, List.getElem_toArray, List.getElem_cons_succ, List.getElem_cons_zero, List.setIfInBounds_toArray, List.set_cons_zero, List.set_cons_succ]
        refine AnyG.one (i := 5) (by kernel_rfl) rfl rfl ?_
        have k5 : Bx y1 W1.heap.size 139 _ := k4
        obtain ⟨f0, f1, f2, f3, ff, fz⟩ := k5.four
        go_simp
        refine Onward.on hS (fun hS2 => ?_)
        clear hS
        have hS := hS2
        clear hS2
        try simp only [Act.put, List.getElem_toArray, List.getElem_cons_succ, List.getElem_cons_zero, List.setIfInBounds_toArray, List.set_cons_zero, List.set_cons_succ]
        refine AnyG.takeC (i := 6) (v := ?_) rfl (by kernel_rfl) (fun _ _ _ h => h) rfl ?_ hS ?_
        rotate_left
        · (intro w' hSw; (try dsimp only at hSw); go_simp; try with_reducible rfl)
        try simp only [Act.put, List.getElem_toArray, List.getElem_cons_succ, List.getElem_cons_zero, List.setIfInBounds_toArray, List.set_cons_zero, List.set_cons_succ]
        refine AnyG.done (by kernel_rfl) ?_ _
        have hS1 : Below W1.heap.size W1 y1 := hS
        clear hS
        go_simp
        replace k1 := k1.call hS1
        replace k2 := k2.call hS1
        replace k3 := k3.call hS1
        replace hAW := hAW.call hS1
        have B1 := B0.trans (hS1.mono B0.size)
        obtain ⟨c0, c1, c2, c3, c4, cf, cz⟩ := k1.five
        obtain ⟨b0, b1, b2, bf, bz⟩ := k2.three
        obtain ⟨p0, p1, p2, p3, p4, p5, p6, p7, pf, pz⟩ := k3.xarr
        go_wp2_with (first | (go_at_call 104; rw [← xarr_def lo hi]; refine (isLight_any LA ln lc BA bn bc o p lo hi at_ _ HL.out HB.out hAW HO.out HX.out).mono ?_; rintro e w5 ⟨rfl, hbz⟩; rw [HV.out]) | fail)
        go_ret
        exact ⟨rfl, B1.trans (hbz.mono B1.size)⟩
    · by_cases h3 : rs = 3
      · subst h3
        have hwk : IntKind.i64.wrap 1 = 1 := IntWalk.i64_in _ (by omega)
        cases hv : isH o lo
        · have HV := Lib.hid hv
          have hck : ckBd o p lo hi ⟨3, at_, ct⟩ = 9 := by simp [ckBd, RightB, hv]
          rw [hck]
          clear hck hv
          go_enter Try.func90, Try.ntmps90
          go_upto_region 11 with fail
          rw [HW.out]
          clear c0 c1 c2 c3 c4 cf cz b0 b1 b2 bf bz
          go_wp2_with fail
          refine AnyG.startC (by kernel_rfl) ?_
          refine AnyG.takeP (i := 1) (v := ?_) rfl (by kernel_rfl) (fun _ _ _ h => h) rfl ?_ ?_
          rotate_left
          · (intro w'; go_simp; try with_reducible rfl)
          try simp only [Act.put, List.getElem_toArray, List.getElem_cons_succ, List.getElem_cons_zero, List.setIfInBounds_toArray, List.set_cons_zero, List.set_cons_succ]
          refine AnyG.enter (fun w' : World => Below W1.heap.size W1 w') (fun i => true) ?_
          have hS : (fun w' : World => Below W1.heap.size W1 w') (World.drew _) := (Below.refl _ _).drew
          refine AnyG.takeC (i := 2) (v := ?_) rfl (by kernel_rfl) (fun _ _ _ h => h) rfl ?_ hS ?_
          rotate_left
          · (intro w' hSw; (try dsimp only at hSw); obtain ⟨b0, b1, b2, bf, bz⟩ := (k2.call hSw).three; go_simp; try with_reducible rfl)
          try simp only [Act.put, List.getElem_toArray, List.getElem_cons_succ, List.getElem_cons_zero, List.setIfInBounds_toArray, List.set_cons_zero, List.set_cons_succ]
          refine AnyG.takeC (i := 3) (v := ?_) rfl (by kernel_rfl) (fun _ _ _ h => h) rfl ?_ hS ?_
          rotate_left
          · (intro w' hSw; (try dsimp only at hSw); go_simp; try with_reducible rfl)
          try simp only [Act.put, List.getElem_toArray, List.getElem_cons_succ, List.getElem_cons_zero, List.setIfInBounds_toArray, List.set_cons_zero, List.set_cons_succ]
          refine AnyG.one (i := 0) (by kernel_rfl) rfl rfl ?_
          go_simp
          refine (reasons_any _).mono ?_
          rintro e1 y1 ⟨⟨rfl, k4⟩, hbr⟩
          refine Onward.on (hS.trans (hbr.mono hS.size)) (fun hS2 => ?_)
          clear hS
          have hS := hS2
          clear hS2
          try simp only [Act.put, List.getElem_toArray, List.getElem_cons_succ, List.getElem_cons_zero, List.setIfInBounds_toArray, List.set_cons_zero, List.set_cons_succ]
          refine AnyG.takeC (i := 4) (v := ?_) rfl (by kernel_rfl) (fun _ _ _ h => h) rfl ?_ hS ?_
          rotate_left
          · (intro w' hSw; (try dsimp only at hSw); go_simp; try with_reducible rfl)
          try simp only [Act.put, List.getElem_toArray, List.getElem_cons_succ, List.getElem_cons_zero, List.setIfInBounds_toArray, List.set_cons_zero, List.set_cons_succ]
          refine AnyG.one (i := 5) (by kernel_rfl) rfl rfl ?_
          have k5 : Bx y1 W1.heap.size 139 _ := k4
          obtain ⟨f0, f1, f2, f3, ff, fz⟩ := k5.four
          go_simp
          refine Onward.on hS (fun hS2 => ?_)
          clear hS
          have hS := hS2
          clear hS2
          try simp only [Act.put, List.getElem_toArray, List.getElem_cons_succ, List.getElem_cons_zero, List.setIfInBounds_toArray, List.set_cons_zero, List.set_cons_succ]
          refine AnyG.takeC (i := 6) (v := ?_) rfl (by kernel_rfl) (fun _ _ _ h => h) rfl ?_ hS ?_
          rotate_left
          · (intro w' hSw; (try dsimp only at hSw); go_simp; try with_reducible rfl)
          try simp only [Act.put, List.getElem_toArray, List.getElem_cons_succ, List.getElem_cons_zero, List.setIfInBounds_toArray, List.set_cons_zero, List.set_cons_succ]
          refine AnyG.done (by kernel_rfl) ?_ _
          have hS1 : Below W1.heap.size W1 y1 := hS
          clear hS
          go_simp
          replace k1 := k1.call hS1
          replace k2 := k2.call hS1
          replace k3 := k3.call hS1
          replace hAW := hAW.call hS1
          have B1 := B0.trans (hS1.mono B0.size)
          obtain ⟨c0, c1, c2, c3, c4, cf, cz⟩ := k1.five
          obtain ⟨b0, b1, b2, bf, bz⟩ := k2.three
          obtain ⟨p0, p1, p2, p3, p4, p5, p6, p7, pf, pz⟩ := k3.xarr
          go_wp2_with (first | (go_at_call 105; rw [← xarr_def lo hi]; refine (isHeavy_any LA ln lc BA bn bc o p lo hi at_ _ HL.out HB.out hAW HO.out HX.out).mono ?_; rintro e w5 ⟨rfl, hbz⟩; rw [HV.out]) | fail)
          go_ret
          exact ⟨rfl, B1.trans (hbz.mono B1.size)⟩
        · have HV := Lib.hid hv
          have hck : ckBd o p lo hi ⟨3, at_, ct⟩ = 0 := by simp [ckBd, RightB, hv]
          rw [hck]
          clear hck hv
          go_enter Try.func90, Try.ntmps90
          go_upto_region 11 with fail
          rw [HW.out]
          clear c0 c1 c2 c3 c4 cf cz b0 b1 b2 bf bz
          go_wp2_with fail
          refine AnyG.startC (by kernel_rfl) ?_
          refine AnyG.takeP (i := 1) (v := ?_) rfl (by kernel_rfl) (fun _ _ _ h => h) rfl ?_ ?_
          rotate_left
          · (intro w'; go_simp; try with_reducible rfl)
          try simp only [Act.put, List.getElem_toArray, List.getElem_cons_succ, List.getElem_cons_zero, List.setIfInBounds_toArray, List.set_cons_zero, List.set_cons_succ]
          refine AnyG.enter (fun w' : World => Below W1.heap.size W1 w') (fun i => true) ?_
          have hS : (fun w' : World => Below W1.heap.size W1 w') (World.drew _) := (Below.refl _ _).drew
          refine AnyG.takeC (i := 2) (v := ?_) rfl (by kernel_rfl) (fun _ _ _ h => h) rfl ?_ hS ?_
          rotate_left
          · (intro w' hSw; (try dsimp only at hSw); obtain ⟨b0, b1, b2, bf, bz⟩ := (k2.call hSw).three; go_simp; try with_reducible rfl)
          try simp only [Act.put, List.getElem_toArray, List.getElem_cons_succ, List.getElem_cons_zero, List.setIfInBounds_toArray, List.set_cons_zero, List.set_cons_succ]
          refine AnyG.takeC (i := 3) (v := ?_) rfl (by kernel_rfl) (fun _ _ _ h => h) rfl ?_ hS ?_
          rotate_left
          · (intro w' hSw; (try dsimp only at hSw); go_simp; try with_reducible rfl)
          try simp only [Act.put, List.getElem_toArray, List.getElem_cons_succ, List.getElem_cons_zero, List.setIfInBounds_toArray, List.set_cons_zero, List.set_cons_succ]
          refine AnyG.one (i := 0) (by kernel_rfl) rfl rfl ?_
          go_simp
          refine (reasons_any _).mono ?_
          rintro e1 y1 ⟨⟨rfl, k4⟩, hbr⟩
          refine Onward.on (hS.trans (hbr.mono hS.size)) (fun hS2 => ?_)
          clear hS
          have hS := hS2
          clear hS2
          try simp only [Act.put, List.getElem_toArray, List.getElem_cons_succ, List.getElem_cons_zero, List.setIfInBounds_toArray, List.set_cons_zero, List.set_cons_succ]
          refine AnyG.takeC (i := 4) (v := ?_) rfl (by kernel_rfl) (fun _ _ _ h => h) rfl ?_ hS ?_
          rotate_left
          · (intro w' hSw; (try dsimp only at hSw); go_simp; try with_reducible rfl)
          try simp only [Act.put, List.getElem_toArray, List.getElem_cons_succ, List.getElem_cons_zero, List.setIfInBounds_toArray, List.set_cons_zero, List.set_cons_succ]
          refine AnyG.one (i := 5) (by kernel_rfl) rfl rfl ?_
          have k5 : Bx y1 W1.heap.size 139 _ := k4
          obtain ⟨f0, f1, f2, f3, ff, fz⟩ := k5.four
          go_simp
          refine Onward.on hS (fun hS2 => ?_)
          clear hS
          have hS := hS2
          clear hS2
          try simp only [Act.put, List.getElem_toArray, List.getElem_cons_succ, List.getElem_cons_zero, List.setIfInBounds_toArray, List.set_cons_zero, List.set_cons_succ]
          refine AnyG.takeC (i := 6) (v := ?_) rfl (by kernel_rfl) (fun _ _ _ h => h) rfl ?_ hS ?_
          rotate_left
          · (intro w' hSw; (try dsimp only at hSw); go_simp; try with_reducible rfl)
          try simp only [Act.put, List.getElem_toArray, List.getElem_cons_succ, List.getElem_cons_zero, List.setIfInBounds_toArray, List.set_cons_zero, List.set_cons_succ]
          refine AnyG.done (by kernel_rfl) ?_ _
          have hS1 : Below W1.heap.size W1 y1 := hS
          clear hS
          go_simp
          replace k1 := k1.call hS1
          replace k2 := k2.call hS1
          replace k3 := k3.call hS1
          replace hAW := hAW.call hS1
          have B1 := B0.trans (hS1.mono B0.size)
          obtain ⟨c0, c1, c2, c3, c4, cf, cz⟩ := k1.five
          obtain ⟨b0, b1, b2, bf, bz⟩ := k2.three
          obtain ⟨p0, p1, p2, p3, p4, p5, p6, p7, pf, pz⟩ := k3.xarr
          go_wp2_with (first | (go_at_call 105; rw [← xarr_def lo hi]; refine (isHeavy_any LA ln lc BA bn bc o p lo hi at_ _ HL.out HB.out hAW HO.out HX.out).mono ?_; rintro e w5 ⟨rfl, hbz⟩; rw [HV.out]) | fail)
          go_ret
          exact ⟨rfl, B1.trans (hbz.mono B1.size)⟩
      · by_cases h4 : rs = 4
        · subst h4
          by_cases hr : at_ < 0 ∨ (ln : Int) - 1 < at_
          · have hck : ckBd o p lo hi ⟨4, at_, ct⟩ = 3 := by unfold ckBd; rw [if_neg (by simp), if_pos ⟨rfl, by dsimp only; rw [HL.out]; exact hr⟩]
            rw [hck]
            clear hck
            go_enter Try.func90, Try.ntmps90
            go_wp2_with (go_at_call 81; rw [HW.out]; refine (isWithin_no _ _ _ _ (by omega)).mono ?_; rintro e w1 ⟨rfl, hb1⟩)
            go_ret
            exact ⟨rfl, B0.trans (hb1.mono B0.size)⟩
          · obtain ⟨m, rfl⟩ : ∃ m : Nat, at_ = m := ⟨at_.toNat, by omega⟩
            have hm : m < ln := by omega
            clear hr
            have hwk : IntKind.i64.wrap 2 = 2 := IntWalk.i64_in _ (by omega)
            cases hv : isB o lo hi m
            · have HV := Lib.hid hv
              have hck : ckBd o p lo hi ⟨4, (m : Int), ct⟩ = 9 := by unfold ckBd; rw [if_neg (by simp), if_neg (by dsimp only; rw [HL.out]; omega), if_neg (by simp)]; simp [RightB, hv]
              rw [hck]
              clear hck hv
              go_enter Try.func90, Try.ntmps90
              go_upto_region 11 with (first | (go_at_call 81; rw [HW.out]; refine (isWithin_yes _ _ _ _ (by omega)).mono ?_; rintro e w1 ⟨rfl, hb1⟩) | fail)
              replace k1 := k1.call hb1
              replace k2 := k2.call hb1
              replace k3 := k3.call hb1
              replace hAW := hAW.call hb1
              replace B0 := B0.trans (hb1.mono B0.size)
              clear hb1
              clear c0 c1 c2 c3 c4 cf cz b0 b1 b2 bf bz
              go_wp2_with fail
              refine AnyG.startC (by kernel_rfl) ?_
              refine AnyG.takeP (i := 1) (v := ?_) rfl (by kernel_rfl) (fun _ _ _ h => h) rfl ?_ ?_
              rotate_left
              · (intro w'; go_simp; try with_reducible rfl)
              try simp only [Act.put, List.getElem_toArray, List.getElem_cons_succ, List.getElem_cons_zero, List.setIfInBounds_toArray, List.set_cons_zero, List.set_cons_succ]
              refine AnyG.enter (fun w' : World => Below w1.heap.size w1 w') (fun i => true) ?_
              have hS : (fun w' : World => Below w1.heap.size w1 w') (World.drew _) := (Below.refl _ _).drew
              refine AnyG.takeC (i := 2) (v := ?_) rfl (by kernel_rfl) (fun _ _ _ h => h) rfl ?_ hS ?_
              rotate_left
              · (intro w' hSw; (try dsimp only at hSw); obtain ⟨b0, b1, b2, bf, bz⟩ := (k2.call hSw).three; go_simp; try with_reducible rfl)
              try simp only [Act.put, List.getElem_toArray, List.getElem_cons_succ, List.getElem_cons_zero, List.setIfInBounds_toArray, List.set_cons_zero, List.set_cons_succ]
              refine AnyG.takeC (i := 3) (v := ?_) rfl (by kernel_rfl) (fun _ _ _ h => h) rfl ?_ hS ?_
              rotate_left
              · (intro w' hSw; (try dsimp only at hSw); go_simp; try with_reducible rfl)
              try simp only [Act.put, List.getElem_toArray, List.getElem_cons_succ, List.getElem_cons_zero, List.setIfInBounds_toArray, List.set_cons_zero, List.set_cons_succ]
              refine AnyG.one (i := 0) (by kernel_rfl) rfl rfl ?_
              go_simp
              refine (reasons_any _).mono ?_
              rintro e1 y1 ⟨⟨rfl, k4⟩, hbr⟩
              refine Onward.on (hS.trans (hbr.mono hS.size)) (fun hS2 => ?_)
              clear hS
              have hS := hS2
              clear hS2
              try simp only [Act.put, List.getElem_toArray, List.getElem_cons_succ, List.getElem_cons_zero, List.setIfInBounds_toArray, List.set_cons_zero, List.set_cons_succ]
              refine AnyG.takeC (i := 4) (v := ?_) rfl (by kernel_rfl) (fun _ _ _ h => h) rfl ?_ hS ?_
              rotate_left
              · (intro w' hSw; (try dsimp only at hSw); go_simp; try with_reducible rfl)
              try simp only [Act.put, List.getElem_toArray, List.getElem_cons_succ, List.getElem_cons_zero, List.setIfInBounds_toArray, List.set_cons_zero, List.set_cons_succ]
              refine AnyG.one (i := 5) (by kernel_rfl) rfl rfl ?_
              have k5 : Bx y1 w1.heap.size 139 _ := k4
              obtain ⟨f0, f1, f2, f3, ff, fz⟩ := k5.four
              go_simp
              refine Onward.on hS (fun hS2 => ?_)
              clear hS
              have hS := hS2
              clear hS2
              try simp only [Act.put, List.getElem_toArray, List.getElem_cons_succ, List.getElem_cons_zero, List.setIfInBounds_toArray, List.set_cons_zero, List.set_cons_succ]
              refine AnyG.takeC (i := 6) (v := ?_) rfl (by kernel_rfl) (fun _ _ _ h => h) rfl ?_ hS ?_
              rotate_left
              · (intro w' hSw; (try dsimp only at hSw); go_simp; try with_reducible rfl)
              try simp only [Act.put, List.getElem_toArray, List.getElem_cons_succ, List.getElem_cons_zero, List.setIfInBounds_toArray, List.set_cons_zero, List.set_cons_succ]
              refine AnyG.done (by kernel_rfl) ?_ _
              have hS1 : Below w1.heap.size w1 y1 := hS
              clear hS
              go_simp
              replace k1 := k1.call hS1
              replace k2 := k2.call hS1
              replace k3 := k3.call hS1
              replace hAW := hAW.call hS1
              have B1 := B0.trans (hS1.mono B0.size)
              obtain ⟨c0, c1, c2, c3, c4, cf, cz⟩ := k1.five
              obtain ⟨b0, b1, b2, bf, bz⟩ := k2.three
              obtain ⟨p0, p1, p2, p3, p4, p5, p6, p7, pf, pz⟩ := k3.xarr
              go_wp2_with (first | (go_at_call 106; rw [← xarr_def lo hi]; refine (isBroken_any LA ln lc BA bn bc o p lo hi m _ HL.out HB.out hAW HO.out HX.out hm).mono ?_; rintro e w5 ⟨rfl, hbz⟩; rw [HV.out]) | fail)
              go_ret
              exact ⟨rfl, B1.trans (hbz.mono B1.size)⟩
            · have HV := Lib.hid hv
              have hck : ckBd o p lo hi ⟨4, (m : Int), ct⟩ = 0 := by unfold ckBd; rw [if_neg (by simp), if_neg (by dsimp only; rw [HL.out]; omega), if_neg (by simp)]; simp [RightB, hv]
              rw [hck]
              clear hck hv
              go_enter Try.func90, Try.ntmps90
              go_upto_region 11 with (first | (go_at_call 81; rw [HW.out]; refine (isWithin_yes _ _ _ _ (by omega)).mono ?_; rintro e w1 ⟨rfl, hb1⟩) | fail)
              replace k1 := k1.call hb1
              replace k2 := k2.call hb1
              replace k3 := k3.call hb1
              replace hAW := hAW.call hb1
              replace B0 := B0.trans (hb1.mono B0.size)
              clear hb1
              clear c0 c1 c2 c3 c4 cf cz b0 b1 b2 bf bz
              go_wp2_with fail
              refine AnyG.startC (by kernel_rfl) ?_
              refine AnyG.takeP (i := 1) (v := ?_) rfl (by kernel_rfl) (fun _ _ _ h => h) rfl ?_ ?_
              rotate_left
              · (intro w'; go_simp; try with_reducible rfl)
              try simp only [Act.put, List.getElem_toArray, List.getElem_cons_succ, List.getElem_cons_zero, List.setIfInBounds_toArray, List.set_cons_zero, List.set_cons_succ]
              refine AnyG.enter (fun w' : World => Below w1.heap.size w1 w') (fun i => true) ?_
              have hS : (fun w' : World => Below w1.heap.size w1 w') (World.drew _) := (Below.refl _ _).drew
              refine AnyG.takeC (i := 2) (v := ?_) rfl (by kernel_rfl) (fun _ _ _ h => h) rfl ?_ hS ?_
              rotate_left
              · (intro w' hSw; (try dsimp only at hSw); obtain ⟨b0, b1, b2, bf, bz⟩ := (k2.call hSw).three; go_simp; try with_reducible rfl)
              try simp only [Act.put, List.getElem_toArray, List.getElem_cons_succ, List.getElem_cons_zero, List.setIfInBounds_toArray, List.set_cons_zero, List.set_cons_succ]
              refine AnyG.takeC (i := 3) (v := ?_) rfl (by kernel_rfl) (fun _ _ _ h => h) rfl ?_ hS ?_
              rotate_left
              · (intro w' hSw; (try dsimp only at hSw); go_simp; try with_reducible rfl)
              try simp only [Act.put, List.getElem_toArray, List.getElem_cons_succ, List.getElem_cons_zero, List.setIfInBounds_toArray, List.set_cons_zero, List.set_cons_succ]
              refine AnyG.one (i := 0) (by kernel_rfl) rfl rfl ?_
              go_simp
              refine (reasons_any _).mono ?_
              rintro e1 y1 ⟨⟨rfl, k4⟩, hbr⟩
              refine Onward.on (hS.trans (hbr.mono hS.size)) (fun hS2 => ?_)
              clear hS
              have hS := hS2
              clear hS2
              try simp only [Act.put, List.getElem_toArray, List.getElem_cons_succ, List.getElem_cons_zero, List.setIfInBounds_toArray, List.set_cons_zero, List.set_cons_succ]
              refine AnyG.takeC (i := 4) (v := ?_) rfl (by kernel_rfl) (fun _ _ _ h => h) rfl ?_ hS ?_
              rotate_left
              · (intro w' hSw; (try dsimp only at hSw); go_simp; try with_reducible rfl)
              try simp only [Act.put, List.getElem_toArray, List.getElem_cons_succ, List.getElem_cons_zero, List.setIfInBounds_toArray, List.set_cons_zero, List.set_cons_succ]
              refine AnyG.one (i := 5) (by kernel_rfl) rfl rfl ?_
              have k5 : Bx y1 w1.heap.size 139 _ := k4
              obtain ⟨f0, f1, f2, f3, ff, fz⟩ := k5.four
              go_simp
              refine Onward.on hS (fun hS2 => ?_)
              clear hS
              have hS := hS2
              clear hS2
              try simp only [Act.put, List.getElem_toArray, List.getElem_cons_succ, List.getElem_cons_zero, List.setIfInBounds_toArray, List.set_cons_zero, List.set_cons_succ]
              refine AnyG.takeC (i := 6) (v := ?_) rfl (by kernel_rfl) (fun _ _ _ h => h) rfl ?_ hS ?_
              rotate_left
              · (intro w' hSw; (try dsimp only at hSw); go_simp; try with_reducible rfl)
              try simp only [Act.put, List.getElem_toArray, List.getElem_cons_succ, List.getElem_cons_zero, List.setIfInBounds_toArray, List.set_cons_zero, List.set_cons_succ]
              refine AnyG.done (by kernel_rfl) ?_ _
              have hS1 : Below w1.heap.size w1 y1 := hS
              clear hS
              go_simp
              replace k1 := k1.call hS1
              replace k2 := k2.call hS1
              replace k3 := k3.call hS1
              replace hAW := hAW.call hS1
              have B1 := B0.trans (hS1.mono B0.size)
              obtain ⟨c0, c1, c2, c3, c4, cf, cz⟩ := k1.five
              obtain ⟨b0, b1, b2, bf, bz⟩ := k2.three
              obtain ⟨p0, p1, p2, p3, p4, p5, p6, p7, pf, pz⟩ := k3.xarr
              go_wp2_with (first | (go_at_call 106; rw [← xarr_def lo hi]; refine (isBroken_any LA ln lc BA bn bc o p lo hi m _ HL.out HB.out hAW HO.out HX.out hm).mono ?_; rintro e w5 ⟨rfl, hbz⟩; rw [HV.out]) | fail)
              go_ret
              exact ⟨rfl, B1.trans (hbz.mono B1.size)⟩
        · by_cases h5 : rs = 5
          · subst h5
            have hwk : IntKind.i64.wrap 3 = 3 := IntWalk.i64_in _ (by omega)
            cases hv : isD o p lo
            · have HV := Lib.hid hv
              have hck : ckBd o p lo hi ⟨5, at_, ct⟩ = 9 := by simp [ckBd, RightB, hv]
              rw [hck]
              clear hck hv
              go_enter Try.func90, Try.ntmps90
              go_upto_region 11 with fail
              rw [HW.out]
              clear c0 c1 c2 c3 c4 cf cz b0 b1 b2 bf bz
              go_wp2_with fail
              refine AnyG.startC (by kernel_rfl) ?_
              refine AnyG.takeP (i := 1) (v := ?_) rfl (by kernel_rfl) (fun _ _ _ h => h) rfl ?_ ?_
              rotate_left
              · (intro w'; go_simp; try with_reducible rfl)
              try simp only [Act.put, List.getElem_toArray, List.getElem_cons_succ, List.getElem_cons_zero, List.setIfInBounds_toArray, List.set_cons_zero, List.set_cons_succ]
              refine AnyG.enter (fun w' : World => Below W1.heap.size W1 w') (fun i => true) ?_
              have hS : (fun w' : World => Below W1.heap.size W1 w') (World.drew _) := (Below.refl _ _).drew
              refine AnyG.takeC (i := 2) (v := ?_) rfl (by kernel_rfl) (fun _ _ _ h => h) rfl ?_ hS ?_
              rotate_left
              · (intro w' hSw; (try dsimp only at hSw); obtain ⟨b0, b1, b2, bf, bz⟩ := (k2.call hSw).three; go_simp; try with_reducible rfl)
              try simp only [Act.put, List.getElem_toArray, List.getElem_cons_succ, List.getElem_cons_zero, List.setIfInBounds_toArray, List.set_cons_zero, List.set_cons_succ]
              refine AnyG.takeC (i := 3) (v := ?_) rfl (by kernel_rfl) (fun _ _ _ h => h) rfl ?_ hS ?_
              rotate_left
              · (intro w' hSw; (try dsimp only at hSw); go_simp; try with_reducible rfl)
              try simp only [Act.put, List.getElem_toArray, List.getElem_cons_succ, List.getElem_cons_zero, List.setIfInBounds_toArray, List.set_cons_zero, List.set_cons_succ]
              refine AnyG.one (i := 0) (by kernel_rfl) rfl rfl ?_
              go_simp
              refine (reasons_any _).mono ?_
              rintro e1 y1 ⟨⟨rfl, k4⟩, hbr⟩
              refine Onward.on (hS.trans (hbr.mono hS.size)) (fun hS2 => ?_)
              clear hS
              have hS := hS2
              clear hS2
              try simp only [Act.put, List.getElem_toArray, List.getElem_cons_succ, List.getElem_cons_zero, List.setIfInBounds_toArray, List.set_cons_zero, List.set_cons_succ]
              refine AnyG.takeC (i := 4) (v := ?_) rfl (by kernel_rfl) (fun _ _ _ h => h) rfl ?_ hS ?_
              rotate_left
              · (intro w' hSw; (try dsimp only at hSw); go_simp; try with_reducible rfl)
              try simp only [Act.put, List.getElem_toArray, List.getElem_cons_succ, List.getElem_cons_zero, List.setIfInBounds_toArray, List.set_cons_zero, List.set_cons_succ]
              refine AnyG.one (i := 5) (by kernel_rfl) rfl rfl ?_
              have k5 : Bx y1 W1.heap.size 139 _ := k4
              obtain ⟨f0, f1, f2, f3, ff, fz⟩ := k5.four
              go_simp
              refine Onward.on hS (fun hS2 => ?_)
              clear hS
              have hS := hS2
              clear hS2
              try simp only [Act.put, List.getElem_toArray, List.getElem_cons_succ, List.getElem_cons_zero, List.setIfInBounds_toArray, List.set_cons_zero, List.set_cons_succ]
              refine AnyG.takeC (i := 6) (v := ?_) rfl (by kernel_rfl) (fun _ _ _ h => h) rfl ?_ hS ?_
              rotate_left
              · (intro w' hSw; (try dsimp only at hSw); go_simp; try with_reducible rfl)
              try simp only [Act.put, List.getElem_toArray, List.getElem_cons_succ, List.getElem_cons_zero, List.setIfInBounds_toArray, List.set_cons_zero, List.set_cons_succ]
              refine AnyG.done (by kernel_rfl) ?_ _
              have hS1 : Below W1.heap.size W1 y1 := hS
              clear hS
              go_simp
              replace k1 := k1.call hS1
              replace k2 := k2.call hS1
              replace k3 := k3.call hS1
              replace hAW := hAW.call hS1
              have B1 := B0.trans (hS1.mono B0.size)
              obtain ⟨c0, c1, c2, c3, c4, cf, cz⟩ := k1.five
              obtain ⟨b0, b1, b2, bf, bz⟩ := k2.three
              obtain ⟨p0, p1, p2, p3, p4, p5, p6, p7, pf, pz⟩ := k3.xarr
              go_wp2_with (first | (go_at_call 107; rw [← xarr_def lo hi]; refine (isDear_any LA ln lc BA bn bc o p lo hi at_ _ HL.out HB.out hAW HO.out HX.out).mono ?_; rintro e w5 ⟨rfl, hbz⟩; rw [HV.out]) | fail)
              go_ret
              exact ⟨rfl, B1.trans (hbz.mono B1.size)⟩
            · have HV := Lib.hid hv
              have hck : ckBd o p lo hi ⟨5, at_, ct⟩ = 0 := by simp [ckBd, RightB, hv]
              rw [hck]
              clear hck hv
              go_enter Try.func90, Try.ntmps90
              go_upto_region 11 with fail
              rw [HW.out]
              clear c0 c1 c2 c3 c4 cf cz b0 b1 b2 bf bz
              go_wp2_with fail
              refine AnyG.startC (by kernel_rfl) ?_
              refine AnyG.takeP (i := 1) (v := ?_) rfl (by kernel_rfl) (fun _ _ _ h => h) rfl ?_ ?_
              rotate_left
              · (intro w'; go_simp; try with_reducible rfl)
              try simp only [Act.put, List.getElem_toArray, List.getElem_cons_succ, List.getElem_cons_zero, List.setIfInBounds_toArray, List.set_cons_zero, List.set_cons_succ]
              refine AnyG.enter (fun w' : World => Below W1.heap.size W1 w') (fun i => true) ?_
              have hS : (fun w' : World => Below W1.heap.size W1 w') (World.drew _) := (Below.refl _ _).drew
              refine AnyG.takeC (i := 2) (v := ?_) rfl (by kernel_rfl) (fun _ _ _ h => h) rfl ?_ hS ?_
              rotate_left
              · (intro w' hSw; (try dsimp only at hSw); obtain ⟨b0, b1, b2, bf, bz⟩ := (k2.call hSw).three; go_simp; try with_reducible rfl)
              try simp only [Act.put, List.getElem_toArray, List.getElem_cons_succ, List.getElem_cons_zero, List.setIfInBounds_toArray, List.set_cons_zero, List.set_cons_succ]
              refine AnyG.takeC (i := 3) (v := ?_) rfl (by kernel_rfl) (fun _ _ _ h => h) rfl ?_ hS ?_
              rotate_left
              · (intro w' hSw; (try dsimp only at hSw); go_simp; try with_reducible rfl)
              try simp only [Act.put, List.getElem_toArray, List.getElem_cons_succ, List.getElem_cons_zero, List.setIfInBounds_toArray, List.set_cons_zero, List.set_cons_succ]
              refine AnyG.one (i := 0) (by kernel_rfl) rfl rfl ?_
              go_simp
              refine (reasons_any _).mono ?_
              rintro e1 y1 ⟨⟨rfl, k4⟩, hbr⟩
              refine Onward.on (hS.trans (hbr.mono hS.size)) (fun hS2 => ?_)
              clear hS
              have hS := hS2
              clear hS2
              try simp only [Act.put, List.getElem_toArray, List.getElem_cons_succ, List.getElem_cons_zero, List.setIfInBounds_toArray, List.set_cons_zero, List.set_cons_succ]
              refine AnyG.takeC (i := 4) (v := ?_) rfl (by kernel_rfl) (fun _ _ _ h => h) rfl ?_ hS ?_
              rotate_left
              · (intro w' hSw; (try dsimp only at hSw); go_simp; try with_reducible rfl)
              try simp only [Act.put, List.getElem_toArray, List.getElem_cons_succ, List.getElem_cons_zero, List.setIfInBounds_toArray, List.set_cons_zero, List.set_cons_succ]
              refine AnyG.one (i := 5) (by kernel_rfl) rfl rfl ?_
              have k5 : Bx y1 W1.heap.size 139 _ := k4
              obtain ⟨f0, f1, f2, f3, ff, fz⟩ := k5.four
              go_simp
              refine Onward.on hS (fun hS2 => ?_)
              clear hS
              have hS := hS2
              clear hS2
              try simp only [Act.put, List.getElem_toArray, List.getElem_cons_succ, List.getElem_cons_zero, List.setIfInBounds_toArray, List.set_cons_zero, List.set_cons_succ]
              refine AnyG.takeC (i := 6) (v := ?_) rfl (by kernel_rfl) (fun _ _ _ h => h) rfl ?_ hS ?_
              rotate_left
              · (intro w' hSw; (try dsimp only at hSw); go_simp; try with_reducible rfl)
              try simp only [Act.put, List.getElem_toArray, List.getElem_cons_succ, List.getElem_cons_zero, List.setIfInBounds_toArray, List.set_cons_zero, List.set_cons_succ]
              refine AnyG.done (by kernel_rfl) ?_ _
              have hS1 : Below W1.heap.size W1 y1 := hS
              clear hS
              go_simp
              replace k1 := k1.call hS1
              replace k2 := k2.call hS1
              replace k3 := k3.call hS1
              replace hAW := hAW.call hS1
              have B1 := B0.trans (hS1.mono B0.size)
              obtain ⟨c0, c1, c2, c3, c4, cf, cz⟩ := k1.five
              obtain ⟨b0, b1, b2, bf, bz⟩ := k2.three
              obtain ⟨p0, p1, p2, p3, p4, p5, p6, p7, pf, pz⟩ := k3.xarr
              go_wp2_with (first | (go_at_call 107; rw [← xarr_def lo hi]; refine (isDear_any LA ln lc BA bn bc o p lo hi at_ _ HL.out HB.out hAW HO.out HX.out).mono ?_; rintro e w5 ⟨rfl, hbz⟩; rw [HV.out]) | fail)
              go_ret
              exact ⟨rfl, B1.trans (hbz.mono B1.size)⟩
          · have hck : ckBd o p lo hi ⟨rs, at_, ct⟩ = 8 := by unfold ckBd; rw [if_neg h1, if_neg (fun h => h4 h.1), if_pos ⟨h2, h3, h4, h5⟩]
            rw [hck]
            clear hck
            have g1 : (rs == 1) = false := by simp; exact h1
            have g2 : (rs == 2) = false := by simp; exact h2
            have g3 : (rs == 3) = false := by simp; exact h3
            have g4 : (rs == 4) = false := by simp; exact h4
            have g5 : (rs == 5) = false := by simp; exact h5
            clear h1 h2 h3 h4 h5
            go_enter Try.func90, Try.ntmps90
            go_wp2_with fail
            rw [HW.out]
            go_ret
            exact ⟨rfl, B0⟩
end Go.Proofs.Ytmemcopfeabcgaa
set_option linter.unusedSimpArgs false
set_option linter.unusedVariables false
namespace Go.Proofs.Ytmemcopfeabcgaa
open Go Go.RowKit
theorem add0 (a : Addr) : a.add 0 = a := by
  obtain ⟨b, o, s⟩ := a
  cases s <;> simp [Addr.add]
theorem bds_drop {w : World} {B : Nat} {ad : Addr} {r : Bd} {L : List Bd} (h : Sl w B 3 (some ad) ((r :: L).map bdr)) : Sl w B 3 (some (ad.add 3)) (L.map bdr) := fun k r' hr => by
  obtain ⟨a', h1, h2, h3⟩ := h (k + 1) r' (by simpa using hr)
  simp only [Option.some.injEq] at h1
  subst h1
  refine ⟨_, rfl, by rw [add_block]; exact h2, ?_⟩
  rw [add_add, show 3 + k * 3 = (k + 1) * 3 by omega]
  exact h3
theorem vfy_len {o : Od} {p : Int} : ∀ (n : Nat) (lo hi : Nat → Int) (L : List Bd), (vfy o p n lo hi L).1.length ≤ L.length := by
  intro n
  induction n with
  | zero => intro lo hi L; simp [vfy]
  | succ n ih =>
    intro lo hi L
    cases L with
    | nil => simp [vfy]
    | cons r L =>
      unfold vfy
      split
      · simp
      · split
        · simp
        · split
          · exact Nat.le_trans (ih _ _ _) (by simp)
          · exact Nat.le_trans (ih _ _ _) (Nat.le_trans (ih _ _ _) (by simp))
theorem Bx.six {w : World} {g : Nat} {t : TypeId} {a b c d e f : Value} (h : Bx w g t #[a, b, c, d, e, f]) : w.cell? ⟨g, 0, none⟩ = some a ∧ w.cell? ⟨g, 1, none⟩ = some b ∧ w.cell? ⟨g, 2, none⟩ = some c ∧ w.cell? ⟨g, 3, none⟩ = some d ∧ w.cell? ⟨g, 4, none⟩ = some e ∧ w.cell? ⟨g, 5, none⟩ = some f ∧ (∀ o, w.frozen? ⟨g, o, none⟩ = false) ∧ g < w.heap.size := ⟨h.cell 0, h.cell 1, h.cell 2, h.cell 3, h.cell 4, h.cell 5, h.free, h.lt⟩
/-- What check gives back. -/
def CheckP (LA : Option Addr) (ln lc : Nat) (BA : Option Addr) (bn bc : Nat) (o : Od) (p : Int) (B q : Nat) (w : World) (R : List Bd × Int) (e : Ending) (w' : World) : Prop :=
  e = .returned (.int .i64 R.2) ∧ w.grownBy w' (some q) ∧ ∃ (RA : Option Addr) (rc : Nat), Bx w' q 103 #[.slice LA ln lc, .int .i64 o.le, .int .i64 o.mo, .slice BA bn bc, .int .i64 p, .slice RA R.1.length rc] ∧ Sl w' B 3 RA (R.1.map bdr) ∧ R.1.length ≤ rc
theorem sl_kept {w w' : World} {B q s : Nat} {A : Option Addr} {xs : List (List Value)} (h : Sl w B s A xs) (k : w.grownBy w' (some q)) (hB : B ≤ w.heap.size) (hq : B ≤ q) : Sl w' B s A xs :=
  h.below ⟨k.os, k.tape, k.output, k.size, fun i hi => k.block i (by omega) (by simp; omega)⟩
theorem ord_kept {w w' : World} {B q : Nat} {LA BA : Option Addr} {o : Od} (h : OrdAt w B LA BA o) (k : w.grownBy w' (some q)) (hB : B ≤ w.heap.size) (hq : B ≤ q) : OrdAt w' B LA BA o :=
  h.below ⟨k.os, k.tape, k.output, k.size, fun i hi => k.block i (by omega) (by simp; omega)⟩
set_option maxRecDepth 100000 in
set_option maxHeartbeats 8000000 in
theorem check64_any (LA : Option Addr) (ln lc : Nat) (BA : Option Addr) (bn bc : Nat) (o : Od) (p : Int) (B q : Nat) (hl : o.lm.length = ln) (hb' : o.bs.length = bn) (ho : o.Ok) (hBq : B ≤ q) : ∀ (fuel : Nat) (lo hi : Nat → Int) (L : List Bd) (RA : Option Addr) (rc : Nat) (w : World), wid lo hi < fuel → BoxOk lo hi → OrdAt w B LA BA o → Sl w B 3 RA (L.map bdr) → Bx w q 103 #[.slice LA ln lc, .int .i64 o.le, .int .i64 o.mo, .slice BA bn bc, .int .i64 p, .slice RA L.length rc] → B ≤ w.heap.size → L.length ≤ 9000000000000000000 → L.length ≤ rc →
    Calls Try.prog 64 #[.pointer (some ⟨q, 0, none⟩), .agg (xarr lo hi)] w (CheckP LA ln lc BA bn bc o p B q w (vfy o p fuel lo hi L)) := by
  have HB := Lib.hid hb'
  have HL := Lib.hid hl
  have HO := Lib.hid ho
  have hbn4 : bn ≤ 4 := by rw [← hb']; exact ho.b2
  clear hb' hl ho
  intro fuel
  induction fuel with
  | zero => intro lo hi L RA rc w hw; omega
  | succ fuel ih =>
    intro lo hi L RA rc w hw hbx hA hS hq hBw hL9 hrc
    have IH := Lib.hid ih
    have HX := Lib.hid hbx
    clear ih hbx
    have hql := hq.lt
    have k1 := Bx.new w 91 (xarr lo hi)
    have B0 := (Below.refl w.heap.size w).alloc (Nat.le_refl _) (.cells (xarr lo hi) 91)
    obtain ⟨n, hn⟩ : ∃ n, L.length = n := ⟨_, rfl⟩
    rw [hn] at hq
    cases L with
    | nil =>
      obtain rfl : n = 0 := by simpa using hn.symm
      obtain ⟨q0, q1, q2, q3, q4, q5, qf, qz⟩ := (hq.call B0).six
      have hS1 := (hS.below (B0.mono hBw))
      have hq1 := hq.call B0
      go_enter Try.func64, Try.ntmps64
      go_wp2_with fail
      go_ret
      exact ⟨by simp [vfy], grown_below B0, RA, rc, by simpa [vfy] using hq1, by simpa [vfy] using hS1, by simp [vfy]⟩
    | cons r L =>
      have hnr : n = L.length + 1 := by simpa using hn.symm
      obtain ⟨ad, h0, had, r0, r1, r2⟩ := bd_at hS (k := 0) (by simp)
      subst h0
      have hSD := bds_drop hS
      obtain ⟨rs, at_, ct⟩ := r
      simp only [Nat.zero_mul, List.getElem_cons_zero, add0] at r0 r1 r2
      obtain ⟨V, hV⟩ : ∃ V, w.alloc (.cells (xarr lo hi) 91) = V := ⟨_, rfl⟩
      rw [hV] at k1 B0
      have HV := Lib.hid hV
      have hqV := hq.call B0
      have hSV := hSD.below (B0.mono hBw)
      have hAV := hA.below (B0.mono hBw)
      have r0V := cellL (B0.mono hBw) had r0
      have r1V := cellL (B0.mono hBw) (a := ⟨ad.block, ad.off + 1, none⟩) had r1
      have r2V := cellL (B0.mono hBw) (a := ⟨ad.block, ad.off + 2, none⟩) had r2
      obtain ⟨q0, q1, q2, q3, q4, q5, qf, qz⟩ := hqV.six
      have HN := Lib.hid hnr
      obtain ⟨NA, hNA⟩ : ∃ x, (if rc = 1 then some ad else some (⟨ad.block, ad.off + 3, none⟩ : Addr)) = x := ⟨_, rfl⟩
      have hSN : Sl V B 3 NA (L.map bdr) := by
        rw [← hNA]
        split
        · have : L = [] := List.eq_nil_of_length_eq_zero (by simp at hrc; omega)
          subst this; exact Sl.nil _ _ _ _
        · exact hSV
      clear hn hnr hV hS hSD hSV hA hq r0 r1 r2
      have hn0 : ((n : Int) == 0) = false := by simp; have := HN.out; omega
      have hn1 : 1 ≤ n := by have := HN.out; omega
      go_enter Try.func64, Try.ntmps64
      go_upto_region 1 with fail
      rw [HV.out]
      go_upto_region 5 with fail
      clear q0 q1 q2 q3 q4 q5 qf qz r0V r1V r2V hn0
      try rw [hNA]
      obtain ⟨V1, hV1⟩ : ∃ X, (V.setCell ⟨q, 5, none⟩ (.slice NA (n - 1) (rc - 1))).alloc (.cells #[.int .i64 rs, .int .i64 at_, .int .i64 ct] 69) = X := ⟨_, rfl⟩
      have G1 : w.grownBy V1 (some q) := by rw [← hV1]; exact grown_alloc (grownF_trans (grown_below B0) (grown_set V q 5 _)) _
      have hqne : w.heap.size ≠ q := by omega
      have kx1 : Bx V1 w.heap.size 91 (xarr lo hi) := by rw [← hV1]; exact (k1.far hqne _).alloc _
      have kq1 : Bx V1 q 103 #[.slice LA ln lc, .int .i64 o.le, .int .i64 o.mo, .slice BA bn bc, .int .i64 p, .slice NA L.length (rc - 1)] := by
        have := hqV.set_ 5 (.slice NA (n - 1) (rc - 1))
        rw [← hV1]
        refine Bx.alloc ?_ _
        have e : n - 1 = L.length := by have := HN.out; omega
        rw [← e]
        simpa using this
      have kb1 : Bx V1 V.heap.size 69 #[.int .i64 rs, .int .i64 at_, .int .i64 ct] := by rw [← hV1]; exact Bx.at _ 69 _ (n := V.heap.size) (by simp)
      have B1 : Below B V V1 := by rw [← hV1]; exact ((Below.refl B V).setCell hBq _).alloc (by have := B0.size; simp; omega) _
      have hA1 := hAV.below B1
      have hS1 := hSN.below B1
      have hB1 : B ≤ V1.heap.size := by have := B1.size; have := B0.size; omega
      rw [hV1]
      have HV1 := Lib.hid hV1
      clear hV1 k1 hqV hAV hSN B1 hNA
      have hVs := kb1.lt
      obtain ⟨vb, hvb⟩ : ∃ b, V.heap.size = b := ⟨_, rfl⟩
      obtain ⟨xb, hxb⟩ : ∃ b, w.heap.size = b := ⟨_, rfl⟩
      have hbq : vb ≠ q := by have := B0.size; omega
      have hbx2 : xb ≠ q := by omega
      have hvx : vb ≠ xb := by have h := B0.size; have : w.heap.size < V.heap.size := by rw [← HV.out]; simp
                               omega
      rw [hvb] at kb1 ⊢
      rw [hxb] at kx1 ⊢
      clear B0 HV
      go_wp2_with fail
      refine AnyG.startC (by kernel_rfl) ?_
      refine AnyG.takeP (i := 0) (v := ?_) rfl (by kernel_rfl) (fun _ _ _ h => h) rfl ?_ ?_
      rotate_left
      · (intro w'; go_simp; try with_reducible rfl)
      try simp only [Act.put, List.getElem_toArray, List.getElem_cons_succ, List.getElem_cons_zero, List.setIfInBounds_toArray, List.set_cons_zero, List.set_cons_succ]
      refine AnyG.takeP (i := 1) (v := ?_) rfl (by kernel_rfl) (fun _ _ _ h => h) rfl ?_ ?_
      rotate_left
      · (intro w'; go_simp; try with_reducible rfl)
      try simp only [Act.put, List.getElem_toArray, List.getElem_cons_succ, List.getElem_cons_zero, List.setIfInBounds_toArray, List.set_cons_zero, List.set_cons_succ]
      refine AnyG.takeP (i := 2) (v := ?_) rfl (by kernel_rfl) (fun _ _ _ h => h) rfl ?_ ?_
      rotate_left
      · (intro w'; go_simp; try with_reducible rfl)
      try simp only [Act.put, List.getElem_toArray, List.getElem_cons_succ, List.getElem_cons_zero, List.setIfInBounds_toArray, List.set_cons_zero, List.set_cons_succ]
      refine AnyG.enter (fun w' : World => Below V1.heap.size V1 w') (fun i => true) ?_
      have hS : (fun w' : World => Below V1.heap.size V1 w') (World.drew _) := (Below.refl _ _).drew
      refine AnyG.takeC (i := 3) (v := ?_) rfl (by kernel_rfl) (fun _ _ _ h => h) rfl ?_ hS ?_
      rotate_left
      · (intro w' hSw; (try dsimp only at hSw); obtain ⟨q0, q1, q2, q3, q4, q5, qf, qz⟩ := (kq1.call hSw).six; go_simp; try with_reducible rfl)
      try simp only [Act.put, List.getElem_toArray, List.getElem_cons_succ, List.getElem_cons_zero, List.setIfInBounds_toArray, List.set_cons_zero, List.set_cons_succ]
      refine AnyG.takeC (i := 4) (v := ?_) rfl (by kernel_rfl) (fun _ _ _ h => h) rfl ?_ hS ?_
      rotate_left
      · (intro w' hSw; (try dsimp only at hSw); obtain ⟨b0, b1, b2, bf, bz⟩ := (kb1.call hSw).three; go_simp; try with_reducible rfl)
      try simp only [Act.put, List.getElem_toArray, List.getElem_cons_succ, List.getElem_cons_zero, List.setIfInBounds_toArray, List.set_cons_zero, List.set_cons_succ]
      refine AnyG.takeC (i := 5) (v := ?_) rfl (by kernel_rfl) (fun _ _ _ h => h) rfl ?_ hS ?_
      rotate_left
      · (intro w' hSw; (try dsimp only at hSw); obtain ⟨p0, p1, p2, p3, p4, p5, p6, p7, pf, pz⟩ := (kx1.call hSw).xarr; go_simp; try with_reducible rfl)
      try simp only [Act.put, List.getElem_toArray, List.getElem_cons_succ, List.getElem_cons_zero, List.setIfInBounds_toArray, List.set_cons_zero, List.set_cons_succ]
      refine AnyG.one (i := 6) (by kernel_rfl) rfl rfl ?_
      go_simp
      rw [← xarr_def lo hi]
      refine (checkBound_any LA ln lc BA bn bc o p lo hi rs at_ ct _ HL.out HB.out ((hA1.below (hS.mono hB1)).more (Nat.le_trans hB1 hS.size)) HO.out HX.out).mono ?_
      rintro e6 y6 ⟨rfl, hb6⟩
      refine Onward.on (hS.trans (hb6.mono hS.size)) (fun hS2 => ?_)
      clear hS
      have hS := hS2
      clear hS2
      try simp only [Act.put, List.getElem_toArray, List.getElem_cons_succ, List.getElem_cons_zero, List.setIfInBounds_toArray, List.set_cons_zero, List.set_cons_succ]
      refine AnyG.takeC (i := 7) (v := ?_) rfl (by kernel_rfl) (fun _ _ _ h => h) rfl ?_ hS ?_
      rotate_left
      · (intro w' hSw; (try dsimp only at hSw); go_simp; try with_reducible rfl)
      try simp only [Act.put, List.getElem_toArray, List.getElem_cons_succ, List.getElem_cons_zero, List.setIfInBounds_toArray, List.set_cons_zero, List.set_cons_succ]
      refine AnyG.done (by kernel_rfl) ?_ _
      have hB2 := hS
      clear hS
      go_simp
      have kx2 := kx1.call hB2
      have kq2 := kq1.call hB2
      have kb2 := kb1.call hB2
      have hA2 := hA1.below (hB2.mono hB1)
      have hS2 := hS1.below (hB2.mono hB1)
      have G2 := grownF_trans G1 (grown_below (row := some q) hB2)
      have hB2s := hB2.size
      clear kx1 kq1 kb1 hA1 hS1 G1 hB2
      obtain ⟨cv, hcv⟩ : ∃ x, ckBd o p lo hi ⟨rs, at_, ct⟩ = x := ⟨_, rfl⟩
      rw [hcv]
      have HCV := Lib.hid hcv
      clear hcv
      obtain ⟨b0, b1, b2, bf, bz⟩ := kb2.three
      by_cases hc0 : cv = 0
      · subst hc0
        by_cases h1 : rs = 1
        · subst h1
          obtain ⟨z0, z1, z2, z3⟩ := ckBd_cut HCV.out rfl
          dsimp only at z0 z1 z2 z3
          obtain ⟨m, rfl⟩ : ∃ m : Nat, at_ = m := ⟨at_.toNat, by omega⟩
          rw [Int.toNat_natCast] at z2 z3
          rw [HB.out] at z1
          have hm4 : m < 4 := by omega
          have hc6 : 0 ≤ ct ∧ ct ≤ 6 := by
            have := HX.out.six m
            have := HX.out.six2 m
            omega
          have HXL := Lib.hid (HX.out.lower hm4 z2 z3)
          have HXU := Lib.hid (HX.out.upper hm4 z2 z3)
          have hwl : wid lo (up1 hi m ct) < fuel := by have := wid_lower hm4 z2 z3; omega
          have hwu : wid (up1 lo m (ct + 1)) hi < fuel := by have := wid_upper hm4 z2 z3; omega
          have hL9' : L.length ≤ 9000000000000000000 := by simp at hL9; omega
          have hrc' : L.length ≤ rc - 1 := by simp at hrc; omega
          have ev : vfy o p (fuel + 1) lo hi (⟨1, (m : Int), ct⟩ :: L) = (if (vfy o p fuel lo (up1 hi m ct) L).2 ≠ 0 then vfy o p fuel lo (up1 hi m ct) L else vfy o p fuel (up1 lo m (ct + 1)) hi (vfy o p fuel lo (up1 hi m ct) L).1) := by
            have h := HCV.out
            conv => lhs; unfold vfy
            rw [if_neg (fun h2 => h2 h), if_neg (fun h2 => h2 rfl)]
            dsimp only
            rw [Int.toNat_natCast]
          have HEV := Lib.hid ev
          clear ev z0 z1 z2 z3 hw hL9 hrc
          obtain ⟨p0, p1, p2, p3, p4, p5, p6, p7, pf, pz⟩ := kx2.xarr
          go_upto_region 9 with (first | (go_at_call 91; rw [← xarr_def lo hi]; refine (cut_any lo hi m ct _ hm4 hc6).mono ?_; rintro e w4 ⟨rfl, hb4⟩; rw [xarr_def lo (up1 hi m ct), xarr_def (up1 lo m (ct + 1)) hi]) | fail)
          clear p0 p1 p2 p3 p4 p5 p6 p7 pf pz b0 b1 b2 bf bz
          rw [← xarr_def lo (up1 hi m ct), ← xarr_def (up1 lo m (ct + 1)) hi]
          obtain ⟨V4, hV4⟩ : ∃ X, (w4.alloc (.cells (xarr lo (up1 hi m ct)) 91)).alloc (.cells (xarr (up1 lo m (ct + 1)) hi) 91) = X := ⟨_, rfl⟩
          have kl : Bx V4 w4.heap.size 91 (xarr lo (up1 hi m ct)) := by rw [← hV4]; exact (Bx.new _ _ _).alloc _
          have ku : Bx V4 (w4.heap.size + 1) 91 (xarr (up1 lo m (ct + 1)) hi) := by rw [← hV4]; exact Bx.at _ 91 _ (n := w4.heap.size + 1) (by simp)
          have hB4 : Below _ y6 V4 := hb4.trans (by rw [← hV4]; exact ((Below.refl _ _).alloc hb4.size _).alloc (by have := hb4.size; simp; omega) _)
          rw [hV4]
          have kq4 := kq2.call hB4
          have hA4 := hA2.below (hB4.mono (Nat.le_trans hB1 hB2s))
          have hS4 := hS2.below (hB4.mono (Nat.le_trans hB1 hB2s))
          have G4 := grownF_trans G2 (grown_below (row := some q) hB4)
          have hB4' : B ≤ V4.heap.size := Nat.le_trans (Nat.le_trans hB1 hB2s) hB4.size
          have hq4 : w4.heap.size ≠ q := by have := hb4.size; have := kq2.lt; omega
          have hq41 : w4.heap.size + 1 ≠ q := by have := hb4.size; have := kq2.lt; omega
          clear hV4 kx2 kq2 kb2 hA2 hS2 G2 hB2s hB4 hb4
          obtain ⟨bl, hbl⟩ : ∃ b, w4.heap.size = b := ⟨_, rfl⟩
          rw [hbl] at kl ku hq4 hq41 ⊢
          clear hbl
          obtain ⟨p0, p1, p2, p3, p4, p5, p6, p7, pf, pz⟩ := kl.xarr
          go_upto_region 10 with (first | (go_at_call 64; rw [← xarr_def lo (up1 hi m ct)]; refine (IH.out lo (up1 hi m ct) L NA (rc - 1) _ hwl HXL.out hA4 hS4 kq4 hB4' hL9' hrc').mono ?_; rintro e w5 ⟨rfl, G5, RA5, rc5, kq5, hS5, hr5⟩) | fail)
          have ku5 := ku.grown G5 (by simpa using hq41)
          have hA5 := ord_kept hA4 G5 hB4' hBq
          have hB5 : B ≤ w5.heap.size := Nat.le_trans hB4' G5.size
          have GG5 := grownF_trans G4 G5
          clear p0 p1 p2 p3 p4 p5 p6 p7 pf pz kl ku kq4 hA4 hS4 G4 hB4' G5
          obtain ⟨e5, he5⟩ : ∃ x, (vfy o p fuel lo (up1 hi m ct) L).2 = x := ⟨_, rfl⟩
          obtain ⟨L5, hL5⟩ : ∃ x, (vfy o p fuel lo (up1 hi m ct) L).1 = x := ⟨_, rfl⟩
          have hR5 : vfy o p fuel lo (up1 hi m ct) L = (L5, e5) := by rw [← he5, ← hL5]
          have hl5 : L5.length ≤ L.length := by rw [← hL5]; exact vfy_len _ _ _ _
          rw [hR5] at HEV kq5 hS5 hr5
          rw [he5]
          clear he5 hL5 hR5
          dsimp only at HEV kq5 hS5 hr5
          by_cases h5 : e5 = 0
          · subst h5
            obtain ⟨p0, p1, p2, p3, p4, p5, p6, p7, pf, pz⟩ := ku5.xarr
            go_wp2_with (first | (go_at_call 64; rw [← xarr_def (up1 lo m (ct + 1)) hi]; refine (IH.out (up1 lo m (ct + 1)) hi L5 RA5 rc5 _ hwu HXU.out hA5 hS5 kq5 hB5 (by omega) hr5).mono ?_; rintro e w6 ⟨rfl, G6, RA6, rc6, kq6, hS6, hr6⟩) | fail)
            go_ret
            rw [HEV.out, if_neg (fun h => h rfl)]
            exact ⟨rfl, grownF_trans GG5 G6, RA6, rc6, kq6, hS6, hr6⟩
          · have d5 : (e5 == 0) = false := by simp; exact h5
            have HH5 := Lib.hid h5
            clear h5
            go_wp2_with fail
            go_ret
            rw [HEV.out, if_pos HH5.out]
            exact ⟨rfl, GG5, RA5, rc5, kq5, hS5, hr5⟩
        · have d1 : (rs == 1) = false := by simp; exact h1
          have ev : vfy o p (fuel + 1) lo hi (⟨rs, at_, ct⟩ :: L) = (L, 0) := by
            unfold vfy; rw [if_neg (fun h => h HCV.out), if_pos h1]
          have HEV := Lib.hid ev
          clear h1 ev
          go_wp2_with fail
          go_ret
          rw [HEV.out]
          exact ⟨rfl, G2, NA, rc - 1, kq2, hS2, by simp at hrc; dsimp only; omega⟩
      · have d0 : (cv == 0) = false := by simp; exact hc0
        have ev : vfy o p (fuel + 1) lo hi (⟨rs, at_, ct⟩ :: L) = (L, cv) := by
          unfold vfy; rw [if_pos (fun h => hc0 (by rw [← HCV.out]; exact h)), HCV.out]
        have HEV := Lib.hid ev
        clear hc0 ev
        go_wp2_with fail
        go_ret
        rw [HEV.out]
        exact ⟨rfl, G2, NA, rc - 1, kq2, hS2, by simp at hrc; dsimp only; omega⟩
end Go.Proofs.Ytmemcopfeabcgaa
set_option linter.unusedSimpArgs false
set_option linter.unusedVariables false
namespace Go.Proofs.Ytmemcopfeabcgaa
open Go Go.RowKit
/-- The error of a proof for a price. -/
def vrf (o : Od) (p : Int) (L : List Bd) : Int :=
  if 6000 < L.length then 6 else if (vfy o p 25 zer o.mx L).2 ≠ 0 then (vfy o p 25 zer o.mx L).2 else if 0 < (vfy o p 25 zer o.mx L).1.length then 2 else 0
theorem wid_mx {o : Od} (h : o.Ok) : wid zer o.mx < 25 := by
  have := h.mx.six2 0
  have := h.mx.six2 1
  have := h.mx.six2 2
  have := h.mx.six2 3
  unfold wid
  simp only [zer]
  omega
theorem vrf_zero {o : Od} (h : o.Ok) {p : Int} {L : List Bd} (hv : vrf o p L = 0) : NoneLess o p zer o.mx := by
  unfold vrf at hv
  split at hv
  · cases hv
  · split at hv
    · rename_i h1; exact absurd hv h1
    · rename_i h1
      exact vfy_sound h 25 _ _ L (Decidable.not_not.1 h1)
set_option maxRecDepth 100000 in
set_option maxHeartbeats 4000000 in
theorem verify_ok (LA : Option Addr) (ln lc : Nat) (BA : Option Addr) (bn bc : Nat) (o : Od) (p : Int) (PA : Option Addr) (pn pc : Nat) (L : List Bd) (w : World) (hln : ln ≤ 9223372036854775807) (hbn : bn ≤ 9223372036854775807) (hl : o.lm.length = ln) (hb' : o.bs.length = bn) (hA : OrdAt w w.heap.size LA BA o) (ho : o.Ok) (hp : 0 ≤ p ∧ p ≤ 300000000) (hL : L.length = pn) (hS : Sl w w.heap.size 3 PA (L.map bdr)) (hpc : pn ≤ pc) (hpn : pn ≤ 9000000000000000000) :
    Calls Try.prog 27 #[.agg #[.slice LA ln lc, .int .i64 o.le, .int .i64 o.mo, .slice BA bn bc], .int .i64 p, .slice PA pn pc] w fun e w' => e = .returned (.int .i64 (vrf o p L)) ∧ Below w.heap.size w w' := by
  have k1 := Bx.new w 27 #[.slice LA ln lc, .int .i64 o.le, .int .i64 o.mo, .slice BA bn bc]
  have B0 := (Below.refl w.heap.size w).alloc (Nat.le_refl _) (.cells #[.slice LA ln lc, .int .i64 o.le, .int .i64 o.mo, .slice BA bn bc] 27)
  have hA1 := hA.call B0
  have hS1 := hS.call B0
  have HL := Lib.hid hl
  have HB := Lib.hid hb'
  have HO := Lib.hid ho
  have HN := Lib.hid hL
  obtain ⟨V, hV⟩ : ∃ V, w.alloc (.cells #[.slice LA ln lc, .int .i64 o.le, .int .i64 o.mo, .slice BA bn bc] 27) = V := ⟨_, rfl⟩
  rw [hV] at k1 B0 hA1 hS1
  have HV := Lib.hid hV
  clear hl hb' ho hL hV
  obtain ⟨l0, l1, l2, l3, lf', lz⟩ := k1.four
  go_enter Try.func27, Try.ntmps27
  go_upto_region 1 with fail
  rw [HV.out]
  go_upto_region 4 with (first | (go_at_call 62; refine (checkPrice_ok LA ln lc BA bn bc o p _ hln hbn HL.out HB.out hA1 HO.out hp).mono ?_; rintro e w1 ⟨rfl, hb1⟩) | fail)
  have k2 := k1.call hb1
  have hA2 := hA1.call hb1
  have hS2 := hS1.call hb1
  have B1 := B0.trans (hb1.mono B0.size)
  clear l0 l1 l2 l3 lf' lz k1 hA1 hS1 B0 hb1
  obtain ⟨l0, l1, l2, l3, lf', lz⟩ := k2.four
  by_cases h6 : 6000 < pn
  · have d6 : decide ((6000 : Int) < (pn : Int)) = true := by simp; omega
    have ev : vrf o p L = 6 := by unfold vrf; rw [HN.out, if_pos h6]
    have HEV := Lib.hid ev
    clear h6 ev
    go_wp2_with fail
    go_ret
    rw [HEV.out]
    exact ⟨rfl, B1⟩
  · have d6 : decide ((6000 : Int) < (pn : Int)) = false := by simp; omega
    have ev : vrf o p L = (if (vfy o p 25 zer o.mx L).2 ≠ 0 then (vfy o p 25 zer o.mx L).2 else if 0 < (vfy o p 25 zer o.mx L).1.length then 2 else 0) := by unfold vrf; rw [HN.out, if_neg h6]
    have HEV := Lib.hid ev
    have hn6 : pn ≤ 6000 := by omega
    clear h6 ev
    go_upto_region 7 with fail
    clear l0 l1 l2 l3 lf' lz
    obtain ⟨V3, hV3⟩ : ∃ X, w1.alloc (.cells #[.slice LA ln lc, .int .i64 o.le, .int .i64 o.mo, .slice BA bn bc, .int .i64 p, .slice PA pn pc] 103) = X := ⟨_, rfl⟩
    have kq := Bx.new w1 103 #[.slice LA ln lc, .int .i64 o.le, .int .i64 o.mo, .slice BA bn bc, .int .i64 p, .slice PA pn pc]
    have B3 : Below w1.heap.size w1 V3 := by rw [← hV3]; exact (Below.refl _ _).alloc (Nat.le_refl _) _
    rw [hV3] at kq ⊢
    obtain ⟨q, hq⟩ : ∃ q, w1.heap.size = q := ⟨_, rfl⟩
    have k3 := k2.call B3
    have hA3 := hA2.below B3
    have hS3 := hS2.below B3
    have BB := B1.trans (B3.mono B1.size)
    have hwq : w.heap.size ≤ q := by rw [← hq]; exact B1.size
    rw [hq] at kq hA3 hS3 ⊢
    have hqV : q < V3.heap.size := kq.lt
    clear hV3 hq k2 hA2 hS2 B1 B3
    obtain ⟨l0, l1, l2, l3, lf', lz⟩ := k3.four
    go_upto_region 8 with (first
      | (go_at_call 57; refine (wholeBox_any LA ln lc BA bn bc o _ HL.out HB.out (hA3.more (Nat.le_of_lt hqV)) HO.out).mono ?_; rintro e w4 ⟨rfl, hb4⟩)
      | (go_at_call 64; refine (check64_any LA ln lc BA bn bc o p q q HL.out HB.out HO.out (Nat.le_refl _) 25 zer o.mx L PA pc _ (wid_mx HO.out) HO.out.mx (hA3.below (hb4.mono (Nat.le_of_lt hqV))) (hS3.below (hb4.mono (Nat.le_of_lt hqV))) (by rw [HN.out]; exact kq.call hb4) (Nat.le_trans (Nat.le_of_lt hqV) hb4.size) (by rw [HN.out]; omega) (by rw [HN.out]; exact hpc)).mono ?_; rintro e w5 ⟨rfl, G5, RA5, rc5, kq5, hS5, hr5⟩)
      | fail)
    have B5 : Below w.heap.size w w5 := (BB.trans (hb4.mono BB.size)).grown G5 (Nat.le_trans BB.size hb4.size) (fun k e => by cases e; exact hwq)
    clear l0 l1 l2 l3 lf' lz k3 hA3 hS3 kq hb4 G5 hS5
    obtain ⟨R, hR⟩ : ∃ R, vfy o p 25 zer o.mx L = R := ⟨_, rfl⟩
    rw [hR] at HEV kq5 hr5 ⊢
    clear hR
    obtain ⟨RL, re⟩ := R
    dsimp only at HEV kq5 hr5 ⊢
    have hrl : RL.length ≤ 9000000000000000000 ∨ 9000000000000000000 < RL.length := by omega
    clear hrl
    obtain ⟨rn, hrn⟩ : ∃ k, RL.length = k := ⟨_, rfl⟩
    rw [hrn] at HEV kq5
    clear hrn hr5
    by_cases h1 : re = 0
    · subst h1
      obtain ⟨q0, q1, q2, q3, q4, q5, qf, qz⟩ := kq5.six
      by_cases h2 : 0 < rn
      · have d2 : decide ((0 : Int) < (rn : Int)) = true := by simp; omega
        have HH2 := Lib.hid h2
        clear h2
        go_wp2_with fail
        go_ret
        rw [HEV.out, if_neg (fun h => h rfl), if_pos HH2.out]
        exact ⟨rfl, B5⟩
      · obtain rfl : rn = 0 := by omega
        go_wp2_with fail
        go_ret
        rw [HEV.out, if_neg (fun h => h rfl), if_neg (by omega)]
        exact ⟨rfl, B5⟩
    · have d1 : (re == 0) = false := by simp; exact h1
      have HH1 := Lib.hid h1
      clear h1
      go_wp2_with fail
      go_ret
      rw [HEV.out, if_pos HH1.out]
      exact ⟨rfl, B5⟩
end Go.Proofs.Ytmemcopfeabcgaa
