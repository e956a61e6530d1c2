/- What the reference's plain proofs are: mathematics. -/
import Derived.Test.YtmemcopfeabcgaaVg
import Derived.Test.YtmemcopfeabcgaaPn
import Derived.Test.YtmemcopfeabcgaaRk
set_option linter.unusedSimpArgs false
set_option linter.unusedVariables false
namespace Go.Proofs.Ytmemcopfeabcgaa
open Go Go.RowKit
/-- The reference's plain proof of a box as far as it comes, and whether it is one. -/
def pln (o : Od) (p : Int) : Nat → (Nat → Int) → (Nat → Int) → List Bd × Bool
 | 0,_,_ => ([],false)
 | n + 1,lo,hi =>
  match reason o p lo hi with
  | some r => ([r],true)
  | none => if one4 lo hi = true then ([],false) else
   (⟨1,(mid lo hi : Int),cutAt lo hi⟩ :: ((pln o p n lo (up1 hi (mid lo hi) (cutAt lo hi))).1 ++ (pln o p n (up1 lo (mid lo hi) (cutAt lo hi + 1)) hi).1),
    (pln o p n lo (up1 hi (mid lo hi) (cutAt lo hi))).2 && (pln o p n (up1 lo (mid lo hi) (cutAt lo hi + 1)) hi).2)
theorem pln_prf {o : Od} {p : Int} : ∀ (n : Nat) (lo hi : Nat → Int),prf o p n lo hi = if (pln o p n lo hi).2 = true then some (pln o p n lo hi).1 else none:=by
 intro n
 induction n with
 | zero => intro lo hi; simp [prf,pln]
 | succ n ih =>
  intro lo hi
  unfold prf pln
  cases hr : reason o p lo hi with
  | some r => simp
  | none =>
   dsimp only
   cases h1 : one4 lo hi with
   | true => simp
   | false =>
    simp only [Bool.false_eq_true,if_false]
    rw [ih lo (up1 hi (mid lo hi) (cutAt lo hi)),ih (up1 lo (mid lo hi) (cutAt lo hi + 1)) hi]
    cases h2 : (pln o p n lo (up1 hi (mid lo hi) (cutAt lo hi))).2 <;> cases h3 : (pln o p n (up1 lo (mid lo hi) (cutAt lo hi + 1)) hi).2 <;> simp
theorem pln_len {o : Od} {p : Int} : ∀ (n : Nat) (lo hi : Nat → Int),BoxOk lo hi → ((pln o p n lo hi).1.length : Int) + 1 ≤ 2 * tot lo hi:=by
 intro n
 induction n with
 | zero => intro lo hi hb; have:=hb.tot; simp [pln]; omega
 | succ n ih =>
  intro lo hi hb
  have ht:=hb.tot
  unfold pln
  cases hr : reason o p lo hi with
  | some r => simp; omega
  | none =>
   dsimp only
   cases h1 : one4 lo hi with
   | true => simp; omega
   | false =>
    simp only [Bool.false_eq_true,if_false]
    obtain ⟨hm4,_⟩:=mid_lt h1
    obtain ⟨c1,c2⟩:=cutAt_bd hb h1
    have i1:=ih lo (up1 hi (mid lo hi) (cutAt lo hi)) (hb.lower hm4 c1 c2)
    have i2:=ih (up1 lo (mid lo hi) (cutAt lo hi + 1)) hi (hb.upper hm4 c1 c2)
    have ht2:=tot_cut (lo:=lo) (hi:=hi) hm4 (cutAt lo hi)
    simp only [List.length_cons,List.length_append]
    omega
/-- Whether a reason other than a cut is right for a box of the reference. -/
theorem brk_ref {o : Od} (ho : o.Ok) {lo hi : Nat → Int} (hb : BoxOk lo hi) {i j : Nat} (hi' : i < o.bs.length) : min (lo i * ovr o i j) (hi i * ovr o i j) = (if (o.bn i).g2 j - o.li j < 0 then hi i else lo i) * (o.bn i).w * ((o.bn i).g2 j - o.li j):=by
 have hw:=(ho.bn hi').w1
 have hle:=hb.le i (by have:=ho.b2; omega)
 unfold ovr
 rw [Int.mul_assoc]
 split
 ·rename_i h
  have : (o.bn i).w * ((o.bn i).g2 j - o.li j) ≤ 0:=Int.mul_nonpos_of_nonneg_of_nonpos (by omega) (by omega)
  have:=Int.mul_le_mul_of_nonpos_right hle this
  omega
 ·rename_i h
  have : 0 ≤ (o.bn i).w * ((o.bn i).g2 j - o.li j):=Int.mul_nonneg (by omega) (by omega)
  have:=Int.mul_le_mul_of_nonneg_right hle this
  omega
/-- The reasons of the reference, in its order. -/
def rsL (ln : Nat) : List Bd:=[⟨2,0,0⟩,⟨3,0,0⟩] ++ ((List.range ln).map fun (j : Nat) => (⟨4,j,0⟩ : Bd)) ++ [⟨5,0,0⟩]
theorem rsL_len (ln : Nat) : (rsL ln).length = ln + 3:=by simp [rsL]
theorem rsL_mem {ln : Nat} {r : Bd} (h : r ∈ rsL ln) : 2 ≤ r.rs ∧ r.rs ≤ 5 ∧ (r.rs = 4 → 0 ≤ r.at_ ∧ r.at_ < ln):=by
 simp only [rsL,List.mem_append,List.mem_cons,List.mem_map,List.mem_range,List.not_mem_nil,or_false] at h
 rcases h with ((rfl | rfl) | ⟨j,hj,rfl⟩) | rfl
 ·exact ⟨by decide,by decide,fun h => by cases h⟩
 ·exact ⟨by decide,by decide,fun h => by cases h⟩
 ·exact ⟨by simp,by simp,fun _ => ⟨Int.natCast_nonneg _,Int.ofNat_lt.2 hj⟩⟩
 ·exact ⟨by decide,by decide,fun h => by cases h⟩
theorem reason_find {o : Od} {p : Int} {lo hi : Nat → Int} : reason o p lo hi = (rsL o.lm.length).find? (RightB o p lo hi):=by
 unfold reason rsL
 have e2 : RightB o p lo hi ⟨2,0,0⟩ = isL o hi:=rfl
 have e3 : RightB o p lo hi ⟨3,0,0⟩ = isH o lo:=rfl
 have e5 : RightB o p lo hi ⟨5,0,0⟩ = isD o p lo:=rfl
 rw [List.append_assoc,List.cons_append,List.cons_append,List.nil_append,List.find?_cons,List.find?_cons,e2,e3]
 cases isL o hi
 ·cases isH o lo
  ·simp only [Bool.false_eq_true,if_false]
   rw [List.find?_append,List.find?_map]
   have e4 : (RightB o p lo hi ∘ fun (j : Nat) => (⟨4,(j : Int),0⟩ : Bd)) = isB o lo hi:=by
    funext j; simp [RightB]
   rw [e4]
   cases (List.range o.lm.length).find? (isB o lo hi) with
   | some j => simp
   | none => simp only [Option.map_none,Option.none_or,List.find?_cons,List.find?_nil,e5]; cases isD o p lo <;> simp
  ·simp
 ·simp
theorem find_first {α : Type} {f : α → Bool} {L : List α} {i : Nat} {x : α} (hx : L[i]? = some x) (h : f x = true) (hb : ∀ (k : Nat) (y : α),k < i → L[k]? = some y → f y = false) : L.find? f = some x:=by
 induction L generalizing i with
 | nil => simp at hx
 | cons a L ih =>
  cases i with
  | zero => simp at hx; subst hx; simp [h]
  | succ i =>
   have h0:=hb 0 a (by omega) rfl
   rw [List.find?_cons,h0]
   exact ih (by simpa using hx) fun k y hk hy => hb (k + 1) y (by omega) (by simpa using hy)
theorem find_none' {α : Type} {f : α → Bool} {L : List α} (hb : ∀ (k : Nat) (y : α),L[k]? = some y → f y = false) : L.find? f = none:=by
 rw [List.find?_eq_none]
 intro x hx
 obtain ⟨k,hk,rfl⟩:=List.getElem_of_mem hx
 rw [hb k _ (List.getElem?_eq_getElem hk)]
 simp
theorem mid_eq {lo hi : Nat → Int} {m : Nat} (h4 : m < 4) (h : ∀ i,i < m → lo i = hi i) (hn : lo m ≠ hi m) : mid lo hi = m:=by
 unfold mid
 rcases four h4 with rfl | rfl | rfl | rfl
 ·rw [if_pos hn]
 ·rw [if_neg (fun h2 => h2 (h 0 (by omega))),if_pos hn]
 ·rw [if_neg (fun h2 => h2 (h 0 (by omega))),if_neg (fun h2 => h2 (h 1 (by omega))),if_pos hn]
 ·rw [if_neg (fun h2 => h2 (h 0 (by omega))),if_neg (fun h2 => h2 (h 1 (by omega))),if_neg (fun h2 => h2 (h 2 (by omega)))]
theorem one4_no {lo hi : Nat → Int} {m : Nat} (h4 : m < 4) (hn : lo m ≠ hi m) : one4 lo hi = false:=by
 cases h : one4 lo hi with
 | false => rfl
 | true => exact absurd (one4_eq h h4) hn
theorem one4_yes {lo hi : Nat → Int} (h : ∀ i,i < 4 → lo i = hi i) : one4 lo hi = true:=by
 simp [one4,h 0 (by omega),h 1 (by omega),h 2 (by omega),h 3 (by omega)]
theorem lf_out {L : List Int} {i : Nat} (h : L.length ≤ i) : lf L i = 0:=by
 unfold lf; rw [List.getD_eq_getElem?_getD,List.getElem?_eq_none h]; rfl
/-- What both sides answer: the error of an order, a price and a proof; the plain proof, and the error. -/
def ckP (o : Od) (p : Int) : Int:=if ckO o ≠ 0 then ckO o else if p < 0 ∨ 300000000 < p then 1 else 0
def vrfA (o : Od) (p : Int) (L : List Bd) : Int:=if ckP o p ≠ 0 then ckP o p else vrf o p L
def prvA (o : Od) (p : Int) : List Bd × Int:=if ckP o p ≠ 0 then ([],ckP o p) else if (pln o p 25 zer o.mx).2 = true then ((pln o p 25 zer o.mx).1,0) else ([],13)
theorem ckP_zero {o : Od} {p : Int} (h : ckP o p = 0) : o.Ok ∧ 0 ≤ p ∧ p ≤ 300000000:=by
 unfold ckP at h
 split at h
 ·rename_i h1; exact absurd h h1
 ·rename_i h1
  split at h
  ·cases h
  ·exact ⟨ckO_zero.1 (Decidable.not_not.1 h1),by omega,by omega⟩
theorem prvA_len {o : Od} {p : Int} : (prvA o p).1.length ≤ 5000:=by
 unfold prvA
 split
 ·simp
 ·rename_i h
  have ho:=(ckP_zero (Decidable.not_not.1 h)).1
  split
  ·have:=pln_len (o:=o) (p:=p) 25 zer o.mx ho.mx
   have:=tot_bd ho.mx
   dsimp only
   omega
  ·simp
end Go.Proofs.Ytmemcopfeabcgaa
