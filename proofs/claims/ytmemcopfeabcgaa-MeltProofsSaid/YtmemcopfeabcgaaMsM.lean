/- swarfkit.BlendOf. -/
import Derived.Test.YtmemcopfeabcgaaOf
set_option linter.unusedSimpArgs false
set_option linter.unusedVariables false
namespace Go.Proofs.Ytmemcopfeabcgaa
open Go Go.RowKit
theorem ckV_ok2 : ∀ (bs : List Bn) (l : List Int),(∀ (j : Nat) (b : Bn) (x : Int),bs[j]? = some b → l[j]? = some x → 0 ≤ x ∧ x ≤ b.g) → ckV (bs.zip l) = 0
 | [],l,_ => by simp [ckV]
 | b :: r,[],_ => by simp [ckV]
 | b :: r,x :: l,h => by
  have h0:=h 0 b x rfl rfl
  have h1:=ckV_ok2 r l fun j b' x' e1 e2 => h (j + 1) b' x' (by simpa using e1) (by simpa using e2)
  simp only [List.zip_cons_cons,ckV]
  rw [if_neg (by omega)]
  exact h1
theorem ckBl_ok {o : Od} {l : List Int} (ho : o.Ok) (hl : l.length = o.bs.length) (h : ∀ j,j < o.bs.length → 0 ≤ l.getD j 0 ∧ l.getD j 0 ≤ (o.bn j).g) : ckBl o l = 0:=by
 unfold ckBl
 rw [if_neg (by rw [ckO_zero.2 ho]; simp),if_neg (by omega)]
 refine ckV_ok2 _ _ fun j b x e1 e2 => ?_
 have hj : j < o.bs.length:=(List.getElem?_eq_some_iff.1 e1).1
 have:=h j hj
 rw [List.getD_eq_getElem?_getD,e2] at this
 unfold Od.bn at this
 rw [List.getD_eq_getElem?_getD,e1] at this
 exact this
theorem getD_snoc (l : List Int) (x : Int) {j : Nat} : (l ++ [x]).getD j 0 = if j < l.length then l.getD j 0 else if j = l.length then x else 0:=by
 rw [List.getD_eq_getElem?_getD,List.getD_eq_getElem?_getD]
 by_cases h : j < l.length
 ·rw [if_pos h,List.getElem?_append_left h]
 ·rw [if_neg h,List.getElem?_append_right (by omega)]
  by_cases h2 : j = l.length
  ·subst h2; simp
  ·rw [if_neg h2,List.getElem?_eq_none (by simp; omega)]; rfl
end Go.Proofs.Ytmemcopfeabcgaa

/-! swarflaw06.kept: whether a blend keeps all limits, grab by grab. -/
namespace Go.Proofs.Ytmemcopfeabcgaa
open Go Go.RowKit
/-- Rows of rows of numbers. -/
def LsAt (w : World) (B : Nat) (A : Option Addr) (Ls : List (List Int)) : Prop :=
 ∀ (k : Nat) (l : List Int),Ls[k]? = some l → ∃ (ad : Addr) (G : Option Addr) (c : Nat),A = some ad ∧ ad.block < B ∧ w.cell? (ad.add k) = some (.slice G l.length c) ∧ Sl w B 1 G (inr l)
theorem LsAt.below {w w' : World} {B : Nat} {A : Option Addr} {Ls : List (List Int)} (h : LsAt w B A Ls) (hb : Below B w w') : LsAt w' B A Ls:=fun k l hk => by
 obtain ⟨ad,G,c,h1,h2,h3,h4⟩:=h k l hk
 exact ⟨ad,G,c,h1,h2,(hb.cell (by rw [add_block]; exact h2)).trans h3,h4.below hb⟩
theorem LsAt.more {w : World} {B B' : Nat} {A : Option Addr} {Ls : List (List Int)} (h : LsAt w B A Ls) (hB : B ≤ B') : LsAt w B' A Ls:=fun k l hk => by
 obtain ⟨ad,G,c,h1,h2,h3,h4⟩:=h k l hk
 exact ⟨ad,G,c,h1,by omega,h3,h4.more hB⟩
theorem LsAt.call {w w' : World} {A : Option Addr} {Ls : List (List Int)} (h : LsAt w w.heap.size A Ls) (hb : Below w.heap.size w w') : LsAt w' w'.heap.size A Ls:=(h.below hb).more hb.size
/-- What grab a has of metal j. -/
def gmOf (Ls : List (List Int)) (a j : Nat) : Int:=(Ls.getD a []).getD j 0
theorem off_mono (b : Nat → Int) : ∀ {i k : Nat},i ≤ k → off b i ≤ off b k
 | i,0,h => by
  have : i = 0:=by omega
  subst this; exact Nat.le_refl _
 | i,k + 1,h => by
  by_cases e : i = k + 1
  ·subst e; exact Nat.le_refl _
  ·have:=off_mono b (i:=i) (k:=k) (by omega)
   simp only [off]; omega
theorem off_lt (b : Nat → Int) {i k t : Nat} (h : i < k) (ht : t < (b i).toNat) : off b i + t < off b k:=by
 have:=off_mono b (i:=i + 1) (k:=k) h
 simp only [off] at this
 omega
end Go.Proofs.Ytmemcopfeabcgaa

/-! Rows of rows of one's own; what is in the grabs of a blend, bin by bin. -/
namespace Go.Proofs.Ytmemcopfeabcgaa
open Go Go.RowKit
theorem info22 : (Try.prog.info? 22).map (fun i => (i.zero,i.size,i.bytes)) = some (some (.slice none 0 0),1,24):=by kernel_rfl
structure LsOwn (w : World) (base : Nat) (vs : List Value) (Ls : List (List Int)) : Prop where
 len : vs.length = Ls.length
 row : ∀ (k : Nat) (v : Value) (l : List Int),vs[k]? = some v → Ls[k]? = some l → ∃ A c,v = .slice A l.length c ∧ w.ownsRow base 3 1 v l.length (inr l).flatten
section
variable {w w' : World} {base : Nat} {vs : List Value} {Ls : List (List Int)}
theorem LsOwn.kept (h : LsOwn w base vs Ls) {row : Option Nat} (k : w.grownBy w' row) (hne : ∀ v n xs,w.ownsRow base 3 1 v n xs → v.ownBlock = none ∨ v.ownBlock ≠ row) : LsOwn w' base vs Ls :=
 ⟨h.len,fun j r b hr hb => by obtain ⟨A,c,e,o⟩:=h.row j r b hr hb; exact ⟨A,c,e,o.kept k (hne _ _ _ o)⟩⟩
theorem LsOwn.bel (h : LsOwn w base vs Ls) (hb : Below w.heap.size w w') : LsOwn w' base vs Ls :=
 ⟨h.len,fun j r b hr hb' => by obtain ⟨A,c,e,o⟩:=h.row j r b hr hb'; exact ⟨A,c,e,own_bel o hb⟩⟩
theorem LsOwn.ft {g : Nat} (h : LsOwn w base vs Ls) (hf : Fd g w) (k : w.grownBy w' (some g)) : LsOwn w' base vs Ls :=
 ⟨h.len,fun j r b hr hb => by obtain ⟨A,c,e,o⟩:=h.row j r b hr hb; exact ⟨A,c,e,own_fd o hf k (by decide)⟩⟩
theorem LsOwn.own (h : LsOwn w base vs Ls) {b n t s : Nat} {v : Value} {xs : List Value} (ho : w.ownsRow b t s v n xs) (k : w.grownBy w' v.ownBlock) (ht : t ≠ 3) : LsOwn w' base vs Ls :=
 h.kept k fun v' n' xs' ho' => own_ne ho' ho (Ne.symm ht)
theorem LsOwn.nil (w : World) (base : Nat) : LsOwn w base [] []:=⟨rfl,fun j r b h => by simp at h⟩
theorem LsOwn.snoc (h : LsOwn w base vs Ls) {A : Option Addr} {c n : Nat} {l : List Int} (hl : l.length = n) (hr : w.ownsRow base 3 1 (.slice A n c) n (inr l).flatten) : LsOwn w base (vs ++ [.slice A n c]) (Ls ++ [l]):=by
 refine ⟨by simp [h.len],fun j r' b' h1 h2 => ?_⟩
 by_cases hj : j < vs.length
 ·rw [List.getElem?_append_left hj] at h1
  rw [List.getElem?_append_left (by rw [← h.len]; exact hj)] at h2
  exact h.row j r' b' h1 h2
 ·have hj2 : j < (vs ++ [Value.slice A n c]).length:=(List.getElem?_eq_some_iff.1 h1).1
  obtain rfl : j = vs.length:=by simp at hj2; omega
  rw [List.getElem?_concat_length] at h1
  rw [h.len,List.getElem?_concat_length] at h2
  simp only [Option.some.injEq] at h1 h2
  subst h1 h2
  exact ⟨A,c,by rw [hl],by rw [hl]; exact hr⟩
theorem LsOwn.at_ (h : LsOwn w base vs Ls) {b c n : Nat} {A : Option Addr} (ho : w.ownsRow b 22 1 (.slice A n c) n vs) : LsAt w w.heap.size A Ls:=by
 have e : vs = (vs.map fun v => [v]).flatten:=by
  clear h ho
  induction vs with
  | nil => rfl
  | cons x r ih => simp only [List.map_cons,List.flatten_cons,List.singleton_append,List.cons.injEq,true_and]; exact ih
 have hn : vs.length = n:=by have:=ho.1; omega
 rw [e] at ho
 obtain ⟨A',c',e',hs⟩:=own_sl ho (by intro r hr; obtain ⟨x,_,rfl⟩:=List.mem_map.1 hr; rfl) (by simpa using hn)
 simp only [Value.slice.injEq] at e'
 rw [← e'.1] at hs
 intro k l hk
 have hk2 : k < vs.length:=by rw [h.len]; exact (List.getElem?_eq_some_iff.1 hk).1
 obtain ⟨A2,c2,e2,o⟩:=h.row k vs[k] l (List.getElem?_eq_getElem hk2) hk
 obtain ⟨ad,q1,q2,q3⟩:=hs.at_ (k:=k) (by simpa using hk2)
 simp only [List.getElem_map,Nat.mul_one] at q3
 rw [e2] at q3 o
 exact ⟨ad,A2,c2,q1,q2,q3.head rfl,own_inr o rfl⟩
end
/-! What is in the grabs, bin by bin. -/
def rowOf (f : Nat → Int) (n : Nat) : List Int:=(List.range n).map f
theorem rowOf_len (f : Nat → Int) (n : Nat) : (rowOf f n).length = n:=by simp [rowOf]
theorem rowOf_succ (f : Nat → Int) (n : Nat) : rowOf f (n + 1) = rowOf f n ++ [f n]:=by simp [rowOf,List.range_succ]
theorem rowOf_at (f : Nat → Int) {n j : Nat} (h : j < n) : (rowOf f n)[j]'(by rw [rowOf_len]; exact h) = f j:=by simp [rowOf]
end Go.Proofs.Ytmemcopfeabcgaa

/-! swarflaw06.gramsOf: what each grab of a blend truly has. -/
namespace Go.Proofs.Ytmemcopfeabcgaa
open Go Go.RowKit
/-- The bins of the grabs, grab by grab. -/
def ixOf (b : Nat → Int) : Nat → List Nat
 | 0 => []
 | i + 1 => ixOf b i ++ List.replicate (b i).toNat i
theorem ixOf_len (b : Nat → Int) : ∀ i : Nat,(ixOf b i).length = off b i
 | 0 => rfl
 | i + 1 => by simp only [ixOf,List.length_append,List.length_replicate,ixOf_len b i,off]
theorem ixOf_at (b : Nat → Int) : ∀ {k i t : Nat},i < k → t < (b i).toNat → (ixOf b k)[off b i + t]? = some i
 | 0,i,t,h,_ => by omega
 | k + 1,i,t,h,ht => by
  simp only [ixOf]
  by_cases hi : i < k
  ·rw [List.getElem?_append_left (by rw [ixOf_len]; exact off_lt b hi ht)]
   exact ixOf_at b hi ht
  ·obtain rfl : i = k:=by omega
   rw [List.getElem?_append_right (by rw [ixOf_len]; omega),ixOf_len,Nat.add_sub_cancel_left,List.getElem?_replicate,if_pos ht]
theorem ixOf_mem (b : Nat → Int) {r : Nat} : ∀ {k : Nat},r ∈ ixOf b k → r < k
 | 0,h => by simp [ixOf] at h
 | k + 1,h => by
  simp only [ixOf,List.mem_append,List.mem_replicate] at h
  rcases h with h | ⟨_,rfl⟩
  ·have:=ixOf_mem b h; omega
  ·omega
/-- A row of what a grab of bin i may have. -/
def RowIn (o : Od) (i : Nat) (r : List Int) : Prop:=∀ j,j < r.length → (o.bn i).g1 j ≤ r.getD j 0 ∧ r.getD j 0 ≤ (o.bn i).g2 j
structure GmOk (o : Od) (ln : Nat) (ix : List Nat) (GM : List (List Int)) : Prop where
 len : GM.length = ix.length
 row : ∀ (k i : Nat) (r : List Int),ix[k]? = some i → GM[k]? = some r → r.length = ln ∧ RowIn o i r
theorem GmOk.snoc {o : Od} {ln i : Nat} {ix : List Nat} {GM : List (List Int)} {l : List Int} (h : GmOk o ln ix GM) (h1 : l.length = ln) (h2 : RowIn o i l) : GmOk o ln (ix ++ [i]) (GM ++ [l]):=by
 refine ⟨by simp [h.len],fun k i' r e1 e2 => ?_⟩
 by_cases hk : k < ix.length
 ·rw [List.getElem?_append_left hk] at e1
  rw [List.getElem?_append_left (by rw [h.len]; exact hk)] at e2
  exact h.row k i' r e1 e2
 ·have hk2 : k < (ix ++ [i]).length:=(List.getElem?_eq_some_iff.1 e1).1
  obtain rfl : k = ix.length:=by simp at hk2; omega
  rw [List.getElem?_concat_length] at e1
  rw [← h.len,List.getElem?_concat_length] at e2
  simp only [Option.some.injEq] at e1 e2
  subst e1 e2
  exact ⟨h1,h2⟩
theorem RowIn.snoc {o : Od} {i : Nat} {l : List Int} {x : Int} (h : RowIn o i l) (h1 : (o.bn i).g1 l.length ≤ x) (h2 : x ≤ (o.bn i).g2 l.length) : RowIn o i (l ++ [x]):=fun j hj => by
 rw [getD_snoc]
 by_cases hj2 : j < l.length
 ·rw [if_pos hj2]; exact h j hj2
 ·rw [if_neg hj2,if_pos (by simp at hj; omega)]
  obtain rfl : j = l.length:=by simp at hj; omega
  exact ⟨h1,h2⟩
/-- What the lists of a truth say to kept. -/
theorem GmOk.gm {o : Od} {ln bn : Nat} {b : Nat → Int} {GM : List (List Int)} (h : GmOk o ln (ixOf b bn) GM) {i t j : Nat} (hi : i < bn) (ht : t < (b i).toNat) (hj : j < ln) : (o.bn i).g1 j ≤ gmOf GM (off b i + t) j ∧ gmOf GM (off b i + t) j ≤ (o.bn i).g2 j:=by
 have h1:=ixOf_at b hi ht
 have hk : off b i + t < GM.length:=by rw [h.len]; exact (List.getElem?_eq_some_iff.1 h1).1
 obtain ⟨e1,e2⟩:=h.row _ _ GM[off b i + t] h1 (List.getElem?_eq_getElem hk)
 have:=e2 j (by omega)
 unfold gmOf
 rw [show GM.getD (off b i + t) [] = GM[off b i + t] by rw [List.getD_eq_getElem?_getD,List.getElem?_eq_getElem hk]; rfl]
 exact this
theorem GmOk.all {o : Od} {ln bn : Nat} {b : Nat → Int} {GM : List (List Int)} (h : GmOk o ln (ixOf b bn) GM) (ho : o.Ok) (hbn : bn ≤ o.bs.length) : ∀ r ∈ GM,r.length = ln ∧ ∀ x ∈ r,0 ≤ x ∧ x ≤ 1000000:=fun r hr => by
 obtain ⟨k,hk⟩:=List.getElem?_of_mem hr
 have hk2 : k < (ixOf b bn).length:=by rw [← h.len]; exact (List.getElem?_eq_some_iff.1 hk).1
 obtain ⟨e1,e2⟩:=h.row k _ r (List.getElem?_eq_getElem hk2) hk
 refine ⟨e1,fun x hx => ?_⟩
 obtain ⟨j,hj⟩:=List.getElem?_of_mem hx
 have:=e2 j (List.getElem?_eq_some_iff.1 hj).1
 rw [List.getD_eq_getElem?_getD,hj] at this
 have:=(ho.bn (i:=(ixOf b bn)[k]) (by have:=ixOf_mem b (List.getElem_mem hk2); omega)).gj j
 simp only [Option.getD_some] at *
 omega
end Go.Proofs.Ytmemcopfeabcgaa

/-! Orders with all weights multiplied: mathematics. What is the cheapest blend is so in one way only. -/
namespace Go.Proofs.Ytmemcopfeabcgaa
open Go Go.RowKit
def Bn.scale (k : Int) (b : Bn) : Bn:={ b with w:=b.w * k }
def Od.scale (k : Int) (o : Od) : Od:=⟨o.lm,o.le * k,o.mo * k,o.bs.map (Bn.scale k)⟩
section
variable (o : Od) (k : Int)
theorem scale_len : (o.scale k).bs.length = o.bs.length:=by simp [Od.scale]
end
theorem Small.scale {o : Od} {bins metals grabs k : Int} (h : Small o bins metals grabs) (hb : bins ≤ 4) (hm : metals ≤ 3) (hg : grabs ≤ 6) (h1 : 1 ≤ k) (h2 : k ≤ 100) : (o.scale k).Ok:=by
 have ho:=h.ok hb hm hg
 have h3:=h.le0
 have h4:=h.lem
 have h5:=h.mo
 have e1:=mul_bd h3 (show o.le ≤ 1000 by omega) (show (0 : Int) ≤ k by omega) h2
 have e2:=mul_bd (show 0 ≤ o.mo by omega) h5 (show (0 : Int) ≤ k by omega) h2
 have e3:=Int.mul_le_mul_of_nonneg_right h4 (show 0 ≤ k by omega)
 refine ⟨ho.lm,ho.lv,e1.1,e3,by show o.mo * k ≤ 240000; omega,by rw [scale_len]; exact ho.b1,by rw [scale_len]; exact ho.b2,fun b hb' => ?_⟩
 obtain ⟨c,hc,rfl⟩:=List.mem_map.1 hb'
 obtain ⟨p1,p2,p3,p4,p5,p6,p7,p8⟩:=h.bn c hc
 have hc2:=ho.bs c hc
 have e4:=mul_bd (show 0 ≤ c.w by omega) p4 (show (0 : Int) ≤ k by omega) h2
 have e5:=mul_bd (show (0 : Int) ≤ 1 by omega) (show (1 : Int) ≤ 1 by omega) (show (0 : Int) ≤ 0 by omega) (show (0 : Int) ≤ 0 by omega)
 have e6 : 1 ≤ c.w * k:=by have:=Int.mul_le_mul p3 h1 (by omega) (by omega : (0 : Int) ≤ c.w); omega
 exact ⟨hc2.len,hc2.gr,e6,by show c.w * k ≤ 10000; omega,hc2.c1,hc2.c2,hc2.g1,hc2.g2⟩
end Go.Proofs.Ytmemcopfeabcgaa

/-! All blends of an order, in order: mathematics. -/
namespace Go.Proofs.Ytmemcopfeabcgaa
open Go Go.RowKit
/-- All lists with so many grabs at most, in lexicographic order. -/
def allB : List Int → List (List Int)
 | [] => [[]]
 | g :: gs => (List.range (g + 1).toNat).flatMap fun (n : Nat) => (allB gs).map fun l => (n : Int) :: l
/-- What is in such a list. -/
inductive Fit : List Int → List Int → Prop
 | nil : Fit [] []
 | cons {g x : Int} {gs l : List Int} (h1 : 0 ≤ x) (h2 : x ≤ g) (h : Fit gs l) : Fit (g :: gs) (x :: l)
theorem Fit.len {gs l : List Int} (h : Fit gs l) : l.length = gs.length:=by
 induction h with
 | nil => rfl
 | cons _ _ _ ih => simp [ih]
theorem Fit.at_ {gs l : List Int} (h : Fit gs l) : ∀ i,i < gs.length → 0 ≤ l.getD i 0 ∧ l.getD i 0 ≤ gs.getD i 0:=by
 induction h with
 | nil => intro i hi; simp at hi
 | cons h1 h2 _ ih =>
  intro i hi
  cases i with
  | zero => exact ⟨h1,h2⟩
  | succ i => exact ih i (by simpa using hi)
theorem Fit.of : ∀ {gs l : List Int},l.length = gs.length → (∀ i,i < gs.length → 0 ≤ l.getD i 0 ∧ l.getD i 0 ≤ gs.getD i 0) → Fit gs l
 | [],[],_,_ => .nil
 | g :: gs,x :: l,hl,h => .cons (h 0 (by simp)).1 (h 0 (by simp)).2 (Fit.of (by simpa using hl) fun i hi => h (i + 1) (by simpa using hi))
theorem mem_allB : ∀ {gs l : List Int},l ∈ allB gs ↔ Fit gs l
 | [],l => by
  simp only [allB,List.mem_singleton]
  exact ⟨fun h => by subst h; exact .nil,fun h => by cases h; rfl⟩
 | g :: gs,l => by
  simp only [allB,List.mem_flatMap,List.mem_range,List.mem_map]
  constructor
  ·rintro ⟨n,hn,a,ha,rfl⟩
   exact .cons (by omega) (by omega) (mem_allB.1 ha)
  ·intro h
   cases h with
   | @cons _ x _ a h1 h2 h3 => exact ⟨x.toNat,by omega,a,mem_allB.2 h3,by rw [Int.toNat_of_nonneg h1]⟩
/-- Before, in lexicographic order. -/
inductive Lex : List Int → List Int → Prop
 | head {x y : Int} {a b : List Int} (h : x < y) : Lex (x :: a) (y :: b)
 | tail {x : Int} {a b : List Int} (h : Lex a b) : Lex (x :: a) (x :: b)
/-- The grabs of an order's bins. -/
def Od.gs (o : Od) : List Int:=o.bs.map Bn.g
theorem gs_len (o : Od) : o.gs.length = o.bs.length:=by simp [Od.gs]
theorem gs_at (o : Od) (i : Nat) : o.gs.getD i 0 = (o.bn i).g:=by
 unfold Od.gs Od.bn
 rw [List.getD_eq_getElem?_getD,List.getD_eq_getElem?_getD,List.getElem?_map]
 cases o.bs[i]? <;> rfl
theorem mx_at (o : Od) (i : Nat) : o.mx i = (o.bn i).g:=rfl
theorem Fit.inb {o : Od} {l : List Int} (h : Fit o.gs l) : InB zer o.mx (lf l):=fun i _ => by
 rw [mx_at,← gs_at]
 by_cases hi : i < o.gs.length
 ·exact h.at_ i hi
 ·unfold lf
  rw [List.getD_eq_getElem?_getD,List.getD_eq_getElem?_getD,List.getElem?_eq_none (by rw [h.len]; omega),List.getElem?_eq_none (by omega)]
  exact ⟨Int.le_refl _,Int.le_refl _⟩
theorem lf_row (d : Nat → Int) {n i : Nat} (hi : i < n) : lf (rowOf d n) i = d i:=by
 unfold lf
 rw [List.getD_eq_getElem?_getD,List.getElem?_eq_getElem (by rw [rowOf_len]; exact hi),rowOf_at d hi]
 rfl
/-- Behind in the list is behind in rank. -/
theorem lex_rk {lo hi b d : Nat → Int} (hb : InB lo hi b) (hd : InB lo hi d) (h : (b 0 < d 0) ∨ (b 0 = d 0 ∧ b 1 < d 1) ∨ (b 0 = d 0 ∧ b 1 = d 1 ∧ b 2 < d 2) ∨ (b 0 = d 0 ∧ b 1 = d 1 ∧ b 2 = d 2 ∧ b 3 < d 3)) : rk lo hi b < rk lo hi d:=by
 rcases Int.lt_or_le (rk lo hi b) (rk lo hi d) with h1 | h1
 ·exact h1
 ·exfalso
  have b1:=hb 1 (by omega)
  have b2:=hb 2 (by omega)
  have b3:=hb 3 (by omega)
  have d1:=hd 1 (by omega)
  have d2:=hd 2 (by omega)
  have d3:=hd 3 (by omega)
  unfold rk at h1
  have e1:=dg_mono (m:=hi 3 - lo 3 + 1) (by omega) (by omega) (by omega) h1 (by omega)
  have e2:=dg_mono (m:=hi 2 - lo 2 + 1) (by omega) (by omega) (by omega) e1 (by omega)
  have e3:=dg_mono (m:=hi 1 - lo 1 + 1) (by omega) (by omega) (by omega) e2 (by omega)
  rcases h with h | ⟨h,h'⟩ | ⟨h,h',h''⟩ | ⟨h,h',h'',h'''⟩
  ·omega
  ·rw [h] at e2; omega
  ·rw [h,h'] at e1; omega
  ·rw [h,h',h''] at h1; omega
theorem Lex.four {a b : List Int} (h : Lex a b) (hl : a.length = b.length) (h4 : a.length ≤ 4) : (lf a 0 < lf b 0) ∨ (lf a 0 = lf b 0 ∧ lf a 1 < lf b 1) ∨ (lf a 0 = lf b 0 ∧ lf a 1 = lf b 1 ∧ lf a 2 < lf b 2) ∨ (lf a 0 = lf b 0 ∧ lf a 1 = lf b 1 ∧ lf a 2 = lf b 2 ∧ lf a 3 < lf b 3):=by
 cases h with
 | head h => exact .inl h
 | tail h =>
  cases h with
  | head h => exact .inr (.inl ⟨rfl,h⟩)
  | tail h =>
   cases h with
   | head h => exact .inr (.inr (.inl ⟨rfl,rfl,h⟩))
   | tail h =>
    cases h with
    | head h => exact .inr (.inr (.inr ⟨rfl,rfl,rfl,h⟩))
    | tail h =>
     cases h with
     | head h => simp at h4
     | tail h => simp at h4
theorem Lex.rk {o : Od} {a b : List Int} (h : Lex a b) (ha : Fit o.gs a) (hb : Fit o.gs b) (h4 : o.bs.length ≤ 4) : rk zer o.mx (lf a) < rk zer o.mx (lf b) :=
 lex_rk ha.inb hb.inb (h.four (by rw [ha.len,hb.len]) (by rw [ha.len,gs_len]; exact h4))
theorem flatMap_snoc (gs : List Int) (pre : List Int) (k : Nat) : ((List.range (k + 1)).flatMap fun (n : Nat) => (allB gs).map fun l => pre ++ ((n : Int) :: l)) = ((List.range k).flatMap fun (n : Nat) => (allB gs).map fun l => pre ++ ((n : Int) :: l)) ++ (allB gs).map fun l => pre ++ ((k : Int) :: l):=by
 rw [List.range_succ,List.flatMap_append]; simp
end Go.Proofs.Ytmemcopfeabcgaa

/-! swarfkit.Ints, Ranges, CopyOrder. -/
namespace Go.Proofs.Ytmemcopfeabcgaa
open Go Go.RowKit
theorem flat_back {s : Nat} (hs0 : 0 < s) : ∀ (xs : List (List Value)) (_ : ∀ r ∈ xs,r.length = s) (j : Nat) (u : Value),xs.flatten[j]? = some u → ∃ k r i,j = k * s + i ∧ xs[k]? = some r ∧ r[i]? = some u
 | [],_,j,u,h => by simp at h
 | x :: xs,hs,j,u,h => by
  have hx:=hs x (by simp)
  rw [List.flatten_cons] at h
  by_cases hj : j < s
  ·rw [List.getElem?_append_left (by omega)] at h
   exact ⟨0,x,j,by omega,rfl,h⟩
  ·rw [List.getElem?_append_right (by omega),hx] at h
   obtain ⟨k,r,i,e,h1,h2⟩:=flat_back hs0 xs (fun r hr => hs r (by simp [hr])) _ _ h
   exact ⟨k + 1,r,i,by rw [Nat.succ_mul]; omega,by simpa using h1,h2⟩
theorem Sl.cells {w : World} {B s : Nat} {a : Addr} {xs : List (List Value)} (h : Sl w B s (some a) xs) (hs0 : 0 < s) (hs : ∀ r ∈ xs,r.length = s) : ∀ j u,xs.flatten[j]? = some u → w.cell? (a.add j) = some u:=by
 intro j u hu
 obtain ⟨k,r,i,rfl,h1,h2⟩:=flat_back hs0 xs hs j u hu
 obtain ⟨ad,e,_,h3⟩:=h k r h1
 simp only [Option.some.injEq] at e
 subst e
 have:=h3 i u h2
 rwa [add_add] at this
theorem flat_len {s : Nat} : ∀ (xs : List (List Value)) (_ : ∀ r ∈ xs,r.length = s),xs.flatten.length = xs.length * s
 | [],_ => by simp
 | x :: xs,hs => by
  rw [List.flatten_cons,List.length_append,hs x (by simp),flat_len xs fun r hr => hs r (by simp [hr]),List.length_cons,Nat.succ_mul]; omega
set_option maxRecDepth 100000 in
set_option maxHeartbeats 1000000 in
theorem ints34_any (A : Option Addr) (n c : Nat) (L : List Int) (w : World) (hn : n ≤ 1000) (hl : L.length = n) (hA : Sl w w.heap.size 1 A (inr L)) :
  Calls Try.prog 34 #[.slice A n c] w fun e w' => (∃ A' c',e = .returned (.slice A' n c') ∧ w'.ownsRow w.heap.size 3 1 (.slice A' n c') n (inr L).flatten) ∧ Below w.heap.size w w':=by
 have HL:=Lib.hid hl
 clear hl
 obtain ⟨i3,hi3,hz3,hs3,iy3⟩:=info_parts info3'
 have hb0 : Below w.heap.size w (w.alloc (.cells #[] 3)):=(Below.refl _ _).alloc (Nat.le_refl _) _
 have how:=World.ownsRow_made (w:=w) (base:=w.heap.size) (e:=3) (size:=1) #[] 0 (Nat.le_refl _) (by unfold maxLen; omega) (by simp)
 have hE:=Sl.below hA hb0
 cases A with
 | none =>
  have hn0 : n = 0:=by
   rcases Nat.eq_zero_or_pos n with h | h
   ·exact h
   ·obtain ⟨ad,h1,_⟩:=hA.at_ (k:=0) (by simp [inr]; rw [HL.out]; exact h)
    cases h1
  subst hn0
  go_enter Try.func34,Try.ntmps34
  go_wp2_with fail
  obtain rfl : L = []:=List.eq_nil_of_length_eq_zero HL.out
  go_ret
  exact ⟨⟨_,_,rfl,by simpa [inr] using how⟩,hb0⟩
 | some a =>
  have hcs:=hE.cells (by decide) (inr_one L)
  have hfl : (inr L).flatten.length = n * 1:=by rw [flat_len _ (inr_one L)]; simp [inr,HL.out]
  have h1c : ∀ u ∈ (inr L).flatten,u.oneCell' = true:=by
   intro u hu
   obtain ⟨r,hr,hu⟩:=List.mem_flatten.1 hu
   unfold inr at hr
   obtain ⟨x,_,rfl⟩:=List.mem_map.1 hr
   simp at hu
   rw [hu]; rfl
  obtain ⟨xs,hxs⟩ : ∃ x,(inr L).flatten = x:=⟨_,rfl⟩
  rw [hxs] at hcs hfl h1c ⊢
  clear hxs
  go_enter Try.func34,Try.ntmps34
  go_wp2_with (first
   | (at_builtin; refine wpList_append_own _ rfl (.tmp 3) (.tmp 4) 22 rfl w.heap.size 3 i3 _ 1 8 Try.underlying22 hi3 hz3 hs3 iy3 rfl (by decide) (.slice (some ⟨w.heap.size,0,none⟩) 0 0) 0 [] rfl how a n c xs rfl hfl hcs h1c (by unfold maxLen; omega) (by omega) (by simp <;> omega) ?_; intro v' w' o1 o2 o3; obtain ⟨A',C',rfl⟩:=own_shape o1)
   | fail)
  have hB : Below w.heap.size w w':=hb0.grown o2 hb0.size (fun k e => by simp [Value.ownBlock] at e <;> omega)
  go_ret
  exact ⟨⟨_,_,rfl,by simpa using o1⟩,hB⟩
set_option maxRecDepth 100000 in
set_option maxHeartbeats 1000000 in
theorem ranges_any (A : Option Addr) (n c : Nat) (L : List (Int × Int)) (w : World) (hn : n ≤ 1000) (hl : L.length = n) (hA : Sl w w.heap.size 2 A (gnr L)) :
  Calls Try.prog 69 #[.slice A n c] w fun e w' => (∃ A' c',e = .returned (.slice A' n c') ∧ w'.ownsRow w.heap.size 39 2 (.slice A' n c') n (gnr L).flatten) ∧ Below w.heap.size w w':=by
 have HL:=Lib.hid hl
 clear hl
 obtain ⟨i3,hi3,hz3,hs3,iy3⟩:=info_parts info39
 have hb0 : Below w.heap.size w (w.alloc (.cells #[] 39)):=(Below.refl _ _).alloc (Nat.le_refl _) _
 have how:=World.ownsRow_made (w:=w) (base:=w.heap.size) (e:=39) (size:=2) #[] 0 (Nat.le_refl _) (by unfold maxLen; omega) (by simp)
 have hE:=Sl.below hA hb0
 cases A with
 | none =>
  have hn0 : n = 0:=by
   rcases Nat.eq_zero_or_pos n with h | h
   ·exact h
   ·obtain ⟨ad,h1,_⟩:=hA.at_ (k:=0) (by simp [gnr]; rw [HL.out]; exact h)
    cases h1
  subst hn0
  go_enter Try.func69,Try.ntmps69
  go_wp2_with fail
  obtain rfl : L = []:=List.eq_nil_of_length_eq_zero HL.out
  go_ret
  exact ⟨⟨_,_,rfl,by simpa [gnr] using how⟩,hb0⟩
 | some a =>
  have hcs:=hE.cells (by decide) (gnr_two L)
  have hfl : (gnr L).flatten.length = n * 2:=by rw [flat_len _ (gnr_two L)]; simp [gnr,HL.out]
  have h1c : ∀ u ∈ (gnr L).flatten,u.oneCell' = true:=by
   intro u hu
   obtain ⟨r,hr,hu⟩:=List.mem_flatten.1 hu
   unfold gnr at hr
   obtain ⟨x,_,rfl⟩:=List.mem_map.1 hr
   simp at hu
   rcases hu with rfl | rfl <;> rfl
  obtain ⟨xs,hxs⟩ : ∃ x,(gnr L).flatten = x:=⟨_,rfl⟩
  rw [hxs] at hcs hfl h1c ⊢
  clear hxs
  go_enter Try.func69,Try.ntmps69
  go_wp2_with (first
   | (at_builtin; refine wpList_append_own _ rfl (.tmp 3) (.tmp 4) 40 rfl w.heap.size 39 i3 _ 2 16 Try.underlying40 hi3 hz3 hs3 iy3 rfl (by decide) (.slice (some ⟨w.heap.size,0,none⟩) 0 0) 0 [] rfl how a n c xs rfl hfl hcs h1c (by unfold maxLen; omega) (by omega) (by simp <;> omega) ?_; intro v' w' o1 o2 o3; obtain ⟨A',C',rfl⟩:=own_shape o1)
   | fail)
  have hB : Below w.heap.size w w':=hb0.grown o2 hb0.size (fun k e => by simp [Value.ownBlock] at e <;> omega)
  go_ret
  exact ⟨⟨_,_,rfl,by simpa using o1⟩,hB⟩
/-- A copy of an order in the making. -/
structure CI (V : World) (lm : List Int) (bs : List Bn) (le mo : Int) (lv bv : Value) (rs : List (List Value)) (q : Nat) (wr : World) : Prop where
 k : Bx wr q 27 #[lv,.int .i64 le,.int .i64 mo,bv]
 ol : wr.ownsRow V.heap.size 3 1 lv lm.length (inr lm).flatten
 ob : wr.ownsRow V.heap.size 42 4 bv bs.length rs.flatten
 bo : BinsOwn wr V.heap.size rs bs
 hb : Below V.heap.size V wr
 hq : V.heap.size ≤ q
theorem BinsOwn.bel {w w' : World} {base : Nat} {rs : List (List Value)} {bs : List Bn} (h : BinsOwn w base rs bs) (hb : Below w.heap.size w w') : BinsOwn w' base rs bs :=
 ⟨h.len,fun j r b hr hb' => by obtain ⟨A,c,e,o⟩:=h.row j r b hr hb'; exact ⟨A,c,e,own_bel o hb⟩⟩
section
variable {V wr x : World} {lm : List Int} {bs : List Bn} {le mo : Int} {lv bv : Value} {rs : List (List Value)} {q : Nat}
theorem CI.bel (h : CI V lm bs le mo lv bv rs q wr) (k : Below wr.heap.size wr x) : CI V lm bs le mo lv bv rs q x :=
 ⟨h.k.call k,own_bel h.ol k,own_bel h.ob k,h.bo.bel k,h.hb.trans (k.mono h.hb.size),h.hq⟩
theorem CI.bin (h : CI V lm bs le mo lv bv rs q wr) {r : List Value} {b : Bn} {v' : Value} (k : wr.grownBy x bv.ownBlock) (o : x.ownsRow V.heap.size 42 4 v' (bs.length + 1) (rs.flatten ++ r)) (hr : GrRow wr V.heap.size r b) :
  CI V lm (bs ++ [b]) le mo lv v' (rs ++ [r]) q (x.setCell ⟨q,3,none⟩ v'):=by
 have k9':=h.k.grown k (own_bx h.ob h.k (by decide))
 refine ⟨?_,?_,?_,?_,(h.hb.grown k h.hb.size (fun i e => (h.ob.lt i e).1)).setCell h.hq _,h.hq⟩
 ·have:=k9'.set_ 3 v'; simpa using this
 ·have ol':=h.ol.kept k (own_ne h.ol h.ob (by decide))
  exact own_set ol' (own_bx ol' k9' (by decide)) v'
 ·rw [List.length_append,rows_snoc]
  exact own_set o (own_bx o k9' (by decide)) v'
 ·exact ((h.bo.snoc hr).own h.ob k (by decide)).set_ k9' (by decide) 3 v'
theorem CI.ord (h : CI V lm bs le mo lv bv rs q wr) {LA BA : Option Addr} {lc bc ln bn : Nat} (e1 : lv = .slice LA ln lc) (e2 : bv = .slice BA bn bc) (hl : lm.length = ln) (hb : bs.length = bn) : OrdAt wr wr.heap.size LA BA ⟨lm,le,mo,bs⟩:=by
 have ol:=h.ol
 have ob:=h.ob
 rw [hl,e1] at ol
 rw [hb,e2] at ob
 exact ⟨own_inr ol hl,h.bo.at_ ob hb⟩
end
end Go.Proofs.Ytmemcopfeabcgaa

/-! MeltScaled. -/
namespace Go.Proofs.Ytmemcopfeabcgaa
open Go Go.RowKit
theorem flatten_set {s : Nat} : ∀ (xs : List (List Value)) (_ : ∀ r ∈ xs,r.length = s) (i j : Nat) (r : List Value) (u : Value),xs[i]? = some r → j < s → xs.flatten.set (i * s + j) u = (xs.set i (r.set j u)).flatten
 | [],_,i,j,r,u,h,_ => by simp at h
 | x :: xs,hs,0,j,r,u,h,hj => by
  obtain rfl : x = r:=by simpa using h
  have hx:=hs x (by simp)
  rw [List.flatten_cons,Nat.zero_mul,Nat.zero_add,List.set_append_left _ _ (by omega)]
  simp
 | x :: xs,hs,i + 1,j,r,u,h,hj => by
  have hx:=hs x (by simp)
  have h' : xs[i]? = some r:=by simpa using h
  rw [List.flatten_cons,List.set_append_right _ _ (by rw [hx,Nat.succ_mul]; omega),hx,show (i + 1) * s + j - s = i * s + j by rw [Nat.succ_mul]; omega,flatten_set xs (fun r hr => hs r (by simp [hr])) i j r u h' hj]
  simp
/-- A store into a row of one's own. -/
theorem own_store {w : World} {b : Nat} {e : TypeId} {s q n cap : Nat} {xs : List Value} (h : w.ownsRow b e s (.slice (some ⟨q,0,none⟩) n cap) n xs) (j : Nat) (u : Value) (hj : j < n * s) : (w.setCell ⟨q,j,none⟩ u).ownsRow b e s (.slice (some ⟨q,0,none⟩) n cap) n (xs.set j u):=by
 refine ⟨by rw [List.length_set]; exact h.1,?_⟩
 rcases h.2 with ⟨h1,_⟩ | ⟨g,c,cur,h1,hb,hg,hc,hm,hs,ht⟩
 ·simp at h1
 ·simp only [Value.slice.injEq,Option.some.injEq,Addr.mk.injEq,and_true,true_and] at h1
  obtain ⟨rfl,rfl⟩:=h1
  have k : Bx (w.setCell ⟨q,j,none⟩ u) q e (cur.setIfInBounds j u):=Bx.set_ (show Bx w q e cur from hg) j u
  refine .inr ⟨q,cap,_,rfl,hb,k,hc,hm,by simpa using hs,?_⟩
  rw [Array.toList_setIfInBounds,← ht,← List.take_set]
section
variable {V wr : World} {lm : List Int} {bs : List Bn} {le mo : Int} {lv bv : Value} {rs : List (List Value)} {q : Nat}
theorem CI.num (h : CI V lm bs le mo lv bv rs q wr) (i : Nat) (z le' mo' : Int) (hi : (#[lv,.int .i64 le,.int .i64 mo,bv] : Array Value).setIfInBounds i (.int .i64 z) = #[lv,.int .i64 le',.int .i64 mo',bv]) : CI V lm bs le' mo' lv bv rs q (wr.setCell ⟨q,i,none⟩ (.int .i64 z)):=by
 refine ⟨?_,own_set h.ol (own_bx h.ol h.k (by decide)) _,own_set h.ob (own_bx h.ob h.k (by decide)) _,h.bo.set_ h.k (by decide) i _,h.hb.setCell h.hq _,h.hq⟩
 have:=h.k.set_ i (.int .i64 z)
 rw [hi] at this
 exact this
/-- A bin's number set in a row of one's own. -/
theorem CI.cell {yq n c : Nat} (h : CI V lm bs le mo lv (.slice (some ⟨yq,0,none⟩) n c) rs q wr) (hn : bs.length = n) {i : Nat} {b b' : Bn} (hb : bs[i]? = some b) (o : Nat) (ho : o < 4) (z : Int) (hg : b'.gr = b.gr) (hrow : ∀ A C,([.slice A b.gr.length C,.int .i64 b.w,.int .i64 b.c,.int .i64 b.g] : List Value).set o (.int .i64 z) = [.slice A b'.gr.length C,.int .i64 b'.w,.int .i64 b'.c,.int .i64 b'.g]) :
  ∃ rs',CI V lm (bs.set i b') le mo lv (.slice (some ⟨yq,0,none⟩) n c) rs' q (wr.setCell ⟨yq,i * 4 + o,none⟩ (.int .i64 z)):=by
 subst hn
 have hib : i < bs.length:=(List.getElem?_eq_some_iff.1 hb).1
 have hir : i < rs.length:=by rw [h.bo.len]; exact hib
 obtain ⟨A,C,hr,og⟩:=h.bo.row i rs[i] b (List.getElem?_eq_getElem hir) hb
 refine ⟨rs.set i (rs[i].set o (.int .i64 z)),h.k.far (fun e => own_bx h.ob h.k (by decide) (by rw [e]; rfl)) _,own_set h.ol (fun e => by
   rcases own_ne h.ob h.ol (by decide) with e2 | e2
   ·simp [Value.ownBlock] at e2
   ·exact e2 e) _,?_,⟨by simp [h.bo.len],fun j r b2 h1 h2 => ?_⟩,h.hb.setCell (h.ob.lt yq rfl).1 _,h.hq⟩
 ·rw [List.length_set,← flatten_set rs h.bo.four i o rs[i] _ (List.getElem?_eq_getElem hir) ho]
  exact own_store h.ob (i * 4 + o) _ (by omega)
 ·have keep : ∀ {v : Value} {n : Nat} {xs : List Value},wr.ownsRow V.heap.size 39 2 v n xs → (wr.setCell ⟨yq,i * 4 + o,none⟩ (.int .i64 z)).ownsRow V.heap.size 39 2 v n xs:=fun ho' => own_set ho' (fun e => by
   rcases own_ne h.ob ho' (by decide) with e2 | e2
   ·simp [Value.ownBlock] at e2
   ·exact e2 e) _
  by_cases hj : j = i
  ·subst hj
   rw [List.getElem?_set_self hir] at h1
   rw [List.getElem?_set_self hib] at h2
   simp only [Option.some.injEq] at h1 h2
   subst h1 h2
   refine ⟨A,C,by rw [hr]; exact hrow A C,?_⟩
   rw [hg]
   exact keep og
  ·rw [List.getElem?_set_ne (Ne.symm hj)] at h1 h2
   obtain ⟨A2,C2,e2,o2⟩:=h.bo.row j r b2 h1 h2
   exact ⟨A2,C2,e2,keep o2⟩
theorem CI.at_ {yq n c : Nat} (h : CI V lm bs le mo lv (.slice (some ⟨yq,0,none⟩) n c) rs q wr) (hn : bs.length = n) {i : Nat} {b : Bn} (hb : bs[i]? = some b) :
  ∃ (G : Option Addr) (gc : Nat),wr.cell? ⟨yq,i * 4,none⟩ = some (.slice G b.gr.length gc) ∧ wr.cell? ⟨yq,i * 4 + 1,none⟩ = some (.int .i64 b.w) ∧ wr.cell? ⟨yq,i * 4 + 2,none⟩ = some (.int .i64 b.c) ∧ wr.cell? ⟨yq,i * 4 + 3,none⟩ = some (.int .i64 b.g):=by
 have hib : i < bs.length:=(List.getElem?_eq_some_iff.1 hb).1
 have ob:=h.ob
 rw [hn] at ob
 obtain ⟨ad,G,gc,e,_,p0,p1,p2,p3,_⟩:=(h.bo.at_ ob hn).at_ hib
 simp only [Option.some.injEq] at e
 subst e
 have e : (⟨yq,0,none⟩ : Addr).add (i * 4) = ⟨yq,i * 4,none⟩:=by unfold Addr.add; split <;> simp_all
 rw [e] at p0 p1 p2 p3
 rw [List.getElem?_eq_getElem hib] at hb
 rw [Option.some.inj hb] at p0 p1 p2 p3
 exact ⟨G,gc,p0,p1,p2,p3⟩
end
/-- The bins before i are scaled. -/
structure Half (k : Int) (bs bs' : List Bn) (i : Nat) : Prop where
 len : bs'.length = bs.length
 row : ∀ (j : Nat) (b : Bn),bs[j]? = some b → bs'[j]? = some (if j < i then b.scale k else b)
theorem Half.start (k : Int) (bs : List Bn) : Half k bs bs 0:=⟨rfl,fun j b h => by rw [if_neg (by omega)]; exact h⟩
theorem Half.step {k : Int} {bs bs' : List Bn} {i : Nat} {b : Bn} (h : Half k bs bs' i) (hb : bs[i]? = some b) : Half k bs (bs'.set i (b.scale k)) (i + 1):=by
 have hi : i < bs'.length:=by rw [h.len]; exact (List.getElem?_eq_some_iff.1 hb).1
 refine ⟨by rw [List.length_set]; exact h.len,fun j c hc => ?_⟩
 by_cases e : j = i
 ·subst e
  rw [List.getElem?_set_self hi,if_pos (by omega)]
  rw [hb] at hc
  rw [Option.some.inj hc]
 ·rw [List.getElem?_set_ne (Ne.symm e),h.row j c hc]
  by_cases e2 : j < i
  ·rw [if_pos e2,if_pos (by omega)]
  ·rw [if_neg e2,if_neg (by omega)]
theorem Half.done {k : Int} {bs bs' : List Bn} (h : Half k bs bs' bs.length) : bs' = bs.map (Bn.scale k):=by
 refine List.ext_getElem? fun j => ?_
 rw [List.getElem?_map]
 cases e : bs[j]? with
 | none => rw [List.getElem?_eq_none (by rw [h.len]; exact List.getElem?_eq_none_iff.1 e)]; rfl
 | some b => rw [h.row j b e,if_pos (List.getElem?_eq_some_iff.1 e).1]; rfl
end Go.Proofs.Ytmemcopfeabcgaa
