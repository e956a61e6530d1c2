/- swarflaw06.anyProof: proofs of a box, made in some way. -/
import Derived.Test.YtmemcopfeabcgaaVg
import Derived.Test.YtmemcopfeabcgaaBs
import Derived.Test.YtmemcopfeabcgaaPcM
import Derived.Test.YtmemcopfeabcgaaAlM
set_option linter.unusedSimpArgs false
set_option linter.unusedVariables false
namespace Go.Proofs.Ytmemcopfeabcgaa
open Go Go.RowKit
/-- A proof that has the form of one, whatever its reasons say. -/
inductive PTree (o : Od) : (Nat → Int) → (Nat → Int) → List Bd → Prop
 | leaf {lo hi : Nat → Int} {r : Bd} (h1 : 2 ≤ r.rs) (h2 : r.rs ≤ 5) : PTree o lo hi [r]
 | cut {lo hi : Nat → Int} {m : Nat} {c : Int} {X Y : List Bd} (hm : m < o.bs.length) (h1 : lo m ≤ c) (h2 : c < hi m) (hX : PTree o lo (up1 hi m c) X) (hY : PTree o (up1 lo m (c + 1)) hi Y) : PTree o lo hi (⟨1,m,c⟩ :: (X ++ Y))
theorem PTree.vfy {o : Od} {p : Int} (ho : o.Ok) {lo hi : Nat → Int} {X : List Bd} (h : PTree o lo hi X) : ∀ (n : Nat) (R : List Bd),wid lo hi < n → ((vfy o p n lo hi (X ++ R)).2 = 0 → (vfy o p n lo hi (X ++ R)).1 = R) ∧ ((vfy o p n lo hi (X ++ R)).2 = 0 ∨ (vfy o p n lo hi (X ++ R)).2 = 9 ∨ (vfy o p n lo hi (X ++ R)).2 = 3):=by
 induction h with
 | @leaf lo hi r h1 h2 =>
  intro n R hn
  obtain ⟨n,rfl⟩ : ∃ k,n = k + 1:=⟨n - 1,by omega⟩
  have hc : ckBd o p lo hi r = 0 ∨ ckBd o p lo hi r = 9 ∨ ckBd o p lo hi r = 3:=by
   unfold ckBd
   rw [if_neg (by omega)]
   split
   ·exact .inr (.inr rfl)
   ·rw [if_neg (by omega)]
    split
    ·exact .inl rfl
    ·exact .inr (.inl rfl)
  simp only [List.cons_append,List.nil_append]
  unfold Go.Proofs.Ytmemcopfeabcgaa.vfy
  by_cases h0 : ckBd o p lo hi r = 0
  ·rw [if_neg (fun h => h h0),if_pos (by omega)]
   exact ⟨fun _ => rfl,.inl rfl⟩
  ·rw [if_pos h0]
   exact ⟨fun h => absurd h h0,hc⟩
 | @cut lo hi m c X Y hm h1 h2 hX hY ihX ihY =>
  intro n R hn
  obtain ⟨n,rfl⟩ : ∃ k,n = k + 1:=⟨n - 1,by omega⟩
  have hm4 : m < 4:=by have:=ho.b2; omega
  have hwl:=wid_lower hm4 h1 h2
  have hwu:=wid_upper hm4 h1 h2
  obtain ⟨a1,a2⟩:=ihX n (Y ++ R) (by omega)
  obtain ⟨b1,b2⟩:=ihY n R (by omega)
  have hc : ckBd o p lo hi ⟨1,m,c⟩ = 0:=by
   unfold ckBd
   dsimp only
   rw [if_pos rfl,if_neg (by omega),Int.toNat_natCast,if_neg (by omega)]
  simp only [List.cons_append,List.append_assoc]
  unfold Go.Proofs.Ytmemcopfeabcgaa.vfy
  rw [if_neg (fun h => h hc),if_neg (fun h => h rfl)]
  dsimp only
  rw [Int.toNat_natCast]
  by_cases h0 : (Go.Proofs.Ytmemcopfeabcgaa.vfy o p n lo (up1 hi m c) (X ++ (Y ++ R))).2 = 0
  ·rw [if_neg (fun h => h h0),a1 h0]
   exact ⟨b1,b2⟩
  ·rw [if_pos h0]
   exact ⟨fun h => absurd h h0,a2⟩
theorem PTree.len {o : Od} (hb : o.bs.length ≤ 4) {lo hi : Nat → Int} {X : List Bd} (h : PTree o lo hi X) : ∀ n : Nat,wid lo hi ≤ n → X.length + 1 ≤ 2 ^ (n + 1):=by
 induction h with
 | leaf _ _ => intro n _; have:=Nat.one_le_two_pow (n:=n); rw [Nat.pow_succ]; simp; omega
 | @cut lo hi m c X Y hm h1 h2 _ _ ihX ihY =>
  intro n hn
  have hm4 : m < 4:=by omega
  have hwl:=wid_lower hm4 h1 h2
  have hwu:=wid_upper hm4 h1 h2
  obtain ⟨n,rfl⟩ : ∃ k,n = k + 1:=⟨n - 1,by omega⟩
  have a:=ihX n (by omega)
  have b:=ihY n (by omega)
  rw [Nat.pow_succ]
  simp
  omega
theorem PTree.vrf {o : Od} {p : Int} (ho : o.Ok) {X : List Bd} (h : PTree o zer o.mx X) (hl : X.length ≤ 6000) : vrf o p X = 0 ∨ vrf o p X = 9 ∨ vrf o p X = 3:=by
 obtain ⟨a,b⟩:=h.vfy (p:=p) ho 25 [] (wid_mx ho)
 rw [List.append_nil] at a b
 unfold Go.Proofs.Ytmemcopfeabcgaa.vrf
 rw [if_neg (by omega)]
 by_cases h0 : (Go.Proofs.Ytmemcopfeabcgaa.vfy o p 25 zer o.mx X).2 = 0
 ·rw [if_neg (fun h => h h0),a h0]; simp
 ·rw [if_pos h0]; exact b
theorem lf_set {L : List Int} {m : Nat} (h : m < L.length) (c : Int) : lf (L.set m c) = up1 (lf L) m c:=by
 funext i
 show (L.set m c).getD i 0 = if i = m then c else L.getD i 0
 rw [List.getD_eq_getElem?_getD,List.getD_eq_getElem?_getD]
 by_cases e : i = m
 ·subst e; rw [if_pos rfl,List.getElem?_set_self h]; rfl
 ·rw [if_neg e,List.getElem?_set_ne (Ne.symm e)]
theorem inr_set {lm : List Int} {i : Nat} (hi : i < lm.length) (z : Int) : (inr lm).flatten.set i (.int .i64 z) = (inr (lm.set i z)).flatten:=by
 have:=flatten_set (s:=1) (inr lm) (inr_one lm) i 0 [.int .i64 lm[i]] (.int .i64 z) (by simp [inr,List.getElem?_eq_getElem hi]) (by omega)
 rw [Nat.mul_one,Nat.add_zero] at this
 rw [this]
 simp [inr,List.map_set]
theorem bdrs_cut (r : Bd) (X Y : List Bd) : bdrs (r :: (X ++ Y)) = bdr r ++ bdrs X ++ bdrs Y:=by simp [bdrs]
theorem bdrs_len (L : List Bd) : (bdrs L).length = L.length * 3:=by
 induction L with
 | nil => rfl
 | cons r L ih => simp only [bdrs,List.map_cons,List.flatten_cons,List.length_append,List.length_cons] at ih ⊢; rw [ih]; simp [bdr]; omega
theorem bdrs_cell (L : List Bd) : ∀ u ∈ bdrs L,u.oneCell' = true:=by
 intro u hu
 unfold bdrs at hu
 obtain ⟨r,hr,hu⟩:=List.mem_flatten.1 hu
 obtain ⟨b,_,rfl⟩:=List.mem_map.1 hr
 exact bd_one b u hu
theorem info69 : (Try.prog.info? 69).map (fun i => (i.zero,i.size,i.bytes)) = some (some (.agg #[.int .i64 0,.int .i64 0,.int .i64 0]),3,24):=by kernel_rfl
theorem made69 {w : World} {b : Nat} (r : Bd) (hb : b ≤ w.heap.size) : (w.alloc (.cells #[.int .i64 r.rs,.int .i64 r.at_,.int .i64 r.ct] 69)).ownsRow b 69 3 (.slice (some ⟨w.heap.size,0,none⟩) 1 1) 1 (bdr r) :=
 ⟨rfl,.inr ⟨w.heap.size,1,#[.int .i64 r.rs,.int .i64 r.at_,.int .i64 r.ct],rfl,hb,Bx.new _ _ _,by omega,by unfold maxLen; omega,rfl,rfl⟩⟩
end Go.Proofs.Ytmemcopfeabcgaa
