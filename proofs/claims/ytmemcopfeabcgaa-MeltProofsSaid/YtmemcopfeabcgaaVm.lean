/- What reasons, plain proofs and checked proofs say: mathematics. -/
import Derived.Test.YtmemcopfeabcgaaOb
set_option linter.unusedSimpArgs false
set_option linter.unusedVariables false
namespace Go.Proofs.Ytmemcopfeabcgaa
open Go Go.RowKit
/-! What reasons and proofs say. -/
section
variable {o : Od} {lo hi b : Nat → Int} {p : Int}
theorem one4_eq (h : one4 lo hi = true) {i : Nat} (hi4 : i < 4) : lo i = hi i:=by
 simp only [one4,Bool.and_eq_true,beq_iff_eq] at h
 rcases four hi4 with rfl | rfl | rfl | rfl
 ·exact h.1.1.1
 ·exact h.1.1.2
 ·exact h.1.2
 ·exact h.2
end
/-! Proofs that are checked. -/
def RightB (o : Od) (p : Int) (lo hi : Nat → Int) (r : Bd) : Bool :=
 if r.rs = 2 then isL o hi else if r.rs = 3 then isH o lo else if r.rs = 4 then isB o lo hi r.at_.toNat else isD o p lo
/-- The error of a bound, by itself. -/
def ckBd (o : Od) (p : Int) (lo hi : Nat → Int) (r : Bd) : Int :=
 if r.rs = 1 then (if r.at_ < 0 ∨ (o.bs.length : Int) - 1 < r.at_ then 3 else if r.ct < lo r.at_.toNat ∨ hi r.at_.toNat - 1 < r.ct then 1 else 0)
 else if r.rs = 4 ∧ (r.at_ < 0 ∨ (o.lm.length : Int) - 1 < r.at_) then 3
 else if r.rs ≠ 2 ∧ r.rs ≠ 3 ∧ r.rs ≠ 4 ∧ r.rs ≠ 5 then 8
 else if RightB o p lo hi r = true then 0 else 9
/-- What is left of a proof behind a box, and the error. -/
def vfy (o : Od) (p : Int) : Nat → (Nat → Int) → (Nat → Int) → List Bd → List Bd × Int
 | 0,_,_,L => (L,2)
 | _ + 1,_,_,[] => ([],2)
 | n + 1,lo,hi,r :: L =>
  if ckBd o p lo hi r ≠ 0 then (L,ckBd o p lo hi r)
  else if r.rs ≠ 1 then (L,0)
  else if (vfy o p n lo (up1 hi r.at_.toNat r.ct) L).2 ≠ 0 then vfy o p n lo (up1 hi r.at_.toNat r.ct) L
  else vfy o p n (up1 lo r.at_.toNat (r.ct + 1)) hi (vfy o p n lo (up1 hi r.at_.toNat r.ct) L).1
section
variable {o : Od} {lo hi b : Nat → Int} {p : Int}
theorem ckBd_cut {r : Bd} (h : ckBd o p lo hi r = 0) (h1 : r.rs = 1) : 0 ≤ r.at_ ∧ r.at_ < o.bs.length ∧ lo r.at_.toNat ≤ r.ct ∧ r.ct < hi r.at_.toNat:=by
 unfold ckBd at h
 rw [if_pos h1] at h
 split at h
 ·cases h
 ·split at h
  ·cases h
  ·omega
end
end Go.Proofs.Ytmemcopfeabcgaa
