/- Easier orders: mathematics; orders made easier in memory. -/
import Derived.Test.YtmemcopfeabcgaaMsM
import Derived.Test.YtmemcopfeabcgaaPn
set_option linter.unusedSimpArgs false
set_option linter.unusedVariables false
namespace Go.Proofs.Ytmemcopfeabcgaa
open Go Go.RowKit
/-- An order that is easier than another one. -/
structure Easier (o x : Od) : Prop where
 lm : x.lm.length = o.lm.length
 li : ∀ j,o.li j ≤ x.li j
 le : x.le ≤ o.le
 mo : o.mo ≤ x.mo
 bs : x.bs.length = o.bs.length
 w : ∀ i,(x.bn i).w = (o.bn i).w
 c : ∀ i,(x.bn i).c ≤ (o.bn i).c
 g : ∀ i,(o.bn i).g ≤ (x.bn i).g
 g2 : ∀ i j,(x.bn i).g2 j ≤ (o.bn i).g2 j
theorem Easier.kil {o x : Od} (h : Easier o x) (b : Nat → Int) (n : Nat) : kil x b n = kil o b n:=sm_congr fun i _ => by rw [h.w]
theorem Easier.cst {o x : Od} (h : Easier o x) {b : Nat → Int} (hb : Six b) (n : Nat) : cst x b n ≤ cst o b n:=sm_mono fun i _ => Int.mul_le_mul_of_nonneg_left (h.c i) (hb i).1
theorem Easier.exX {o x : Od} (h : Easier o x) (ho : o.Ok) {b : Nat → Int} (hb : Six b) (j : Nat) {n : Nat} (hn : n ≤ o.bs.length) : exX x b j n ≤ exX o b j n:=by
 refine sm_mono fun i hi => ?_
 rw [h.w]
 refine Int.mul_le_mul_of_nonneg_left ?_ (w_bd ho hb (by omega)).1
 have:=h.g2 i j
 have:=h.li j
 omega
/-- No two bins share their grams. -/
def Apt (rs : List (List Value)) : Prop:=∀ (i j : Nat) (r s : List Value) (u v : Value),i < j → rs[i]? = some r → rs[j]? = some s → r[0]? = some u → s[0]? = some v → u.ownBlock = none ∨ u.ownBlock ≠ v.ownBlock
theorem Apt.nil : Apt []:=fun i j r s u v _ h => by simp at h
theorem Apt.snoc {w w' : World} {B : Nat} {rs : List (List Value)} {bs : List Bn} {A : Option Addr} {n c : Nat} {xs : List Value} (h : Apt rs) (hb : BinsOwn w B rs bs) (o : w'.ownsRow w.heap.size 39 2 (.slice A n c) n xs) (x y z : Value) : Apt (rs ++ [[.slice A n c,x,y,z]]):=by
 intro i j r s u v hij hi hj hu hv
 by_cases hjl : j < rs.length
 ·rw [List.getElem?_append_left (by omega)] at hi
  rw [List.getElem?_append_left hjl] at hj
  exact h i j r s u v hij hi hj hu hv
 ·have hj2 : j < (rs ++ [[.slice A n c,x,y,z]]).length:=(List.getElem?_eq_some_iff.1 hj).1
  obtain rfl : j = rs.length:=by simp at hj2; omega
  rw [List.getElem?_append_left hij] at hi
  rw [List.getElem?_concat_length,Option.some.injEq] at hj
  subst hj
  simp only [List.getElem?_cons_zero,Option.some.injEq] at hv
  subst hv
  have hib : i < bs.length:=by rw [← hb.len]; exact hij
  obtain ⟨A2,C2,rfl,o2⟩:=hb.row i r _ hi (List.getElem?_eq_getElem hib)
  simp only [List.getElem?_cons_zero,Option.some.injEq] at hu
  subst hu
  cases e : (Value.slice A2 bs[i].gr.length C2).ownBlock with
  | none => exact .inl rfl
  | some k =>
   refine .inr fun e2 => ?_
   have h1:=(o2.lt k e).2
   have h2:=(o.lt k e2.symm).1
   omega
/-- An order of one's own that is changed while a feed turns. -/
structure XI (g : Nat) (V : World) (lm : List Int) (bs : List Bn) (le mo : Int) (lv bv : Value) (rs : List (List Value)) (q : Nat) (wr : World) : Prop where
 k : Bx wr q 27 #[lv,.int .i64 le,.int .i64 mo,bv]
 ol : wr.ownsRow V.heap.size 3 1 lv lm.length (inr lm).flatten
 ob : wr.ownsRow V.heap.size 42 4 bv bs.length rs.flatten
 bo : BinsOwn wr V.heap.size rs bs
 ft : FT g V wr
 hq : V.heap.size ≤ q
 hg : g < V.heap.size
 ap : Apt rs
/-- The address of the grams of bin i. -/
def HeadIs (rs : List (List Value)) (i : Nat) (v : Value) : Prop:=∃ r,rs[i]? = some r ∧ r[0]? = some v
section
variable {g : Nat} {V wr x : World} {lm : List Int} {bs : List Bn} {le mo : Int} {lv bv : Value} {rs : List (List Value)} {q : Nat}
theorem XI.of (h : CI V lm bs le mo lv bv rs q wr) (hf : Fd g V) (ha : Apt rs) : XI g V lm bs le mo lv bv rs q wr :=
 ⟨h.k,h.ol,h.ob,h.bo,FT.bel (FT.self hf) h.hb,h.hq,hf.lt,ha⟩
theorem XI.step (h : XI g V lm bs le mo lv bv rs q wr) (k : FT g wr x) : XI g V lm bs le mo lv bv rs q x :=
 ⟨k.bx h.k (by have:=h.hq; have:=h.hg; omega),k.row h.ft.2 h.ol (by decide),k.row h.ft.2 h.ob (by decide),h.bo.ft h.ft.2 k.1,h.ft.call k.1 k.2,h.hq,h.hg,h.ap⟩
theorem XI.num (h : XI g V lm bs le mo lv bv rs q wr) (i : Nat) (z le' mo' : Int) (hi : (#[lv,.int .i64 le,.int .i64 mo,bv] : Array Value).setIfInBounds i (.int .i64 z) = #[lv,.int .i64 le',.int .i64 mo',bv]) : XI g V lm bs le' mo' lv bv rs q (wr.setCell ⟨q,i,none⟩ (.int .i64 z)):=by
 refine ⟨?_,own_set h.ol (own_bx h.ol h.k (by decide)) _,own_set h.ob (own_bx h.ob h.k (by decide)) _,h.bo.set_ h.k (by decide) i _,h.ft.set_ h.hq (by have:=h.hq; have:=h.hg; omega) _ _,h.hq,h.hg,h.ap⟩
 have:=h.k.set_ i (.int .i64 z)
 rw [hi] at this
 exact this
theorem store_far {B e s yq n c i : Nat} {xs : List Value} {u : Value} (h : wr.ownsRow B e s (.slice (some ⟨yq,0,none⟩) n c) n xs) {e' s' n' : Nat} {v' : Value} {xs' : List Value} (ho : wr.ownsRow B e' s' v' n' xs') (he : e ≠ e') : (wr.setCell ⟨yq,i,none⟩ u).ownsRow B e' s' v' n' xs':=own_set ho (fun e => by
  rcases own_ne h ho he with e2 | e2
  ·simp [Value.ownBlock] at e2
  ·exact e2 e) _
/-- A limit set. -/
theorem XI.lim {yq n c : Nat} (h : XI g V lm bs le mo (.slice (some ⟨yq,0,none⟩) n c) bv rs q wr) (hn : lm.length = n) {i : Nat} (hi : i < n) (z : Int) :
  XI g V (lm.set i z) bs le mo (.slice (some ⟨yq,0,none⟩) n c) bv rs q (wr.setCell ⟨yq,i,none⟩ (.int .i64 z)):=by
 subst hn
 have hl:=(h.ol.lt yq rfl).1
 refine ⟨h.k.far (fun e => own_bx h.ol h.k (by decide) (by rw [e]; rfl)) _,?_,store_far h.ol h.ob (by decide),⟨h.bo.len,fun j r b h1 h2 => ?_⟩,h.ft.set_ hl (by have:=h.hg; omega) _ _,h.hq,h.hg,h.ap⟩
 ·rw [List.length_set]
  have:=own_store h.ol i (.int .i64 z) (by omega)
  have e : (inr lm).flatten.set i (.int .i64 z) = (inr (lm.set i z)).flatten:=by
   have:=flatten_set (s:=1) (inr lm) (inr_one lm) i 0 [.int .i64 lm[i]] (.int .i64 z) (by simp [inr,List.getElem?_eq_getElem hi]) (by omega)
   rw [Nat.mul_one,Nat.add_zero] at this
   rw [this]
   simp [inr,List.map_set]
  rw [e] at this
  exact this
 ·obtain ⟨A,C,e,o⟩:=h.bo.row j r b h1 h2
  exact ⟨A,C,e,store_far h.ol o (by decide)⟩
theorem Apt.set_ (ha : Apt rs) {i : Nat} {r r' : List Value} (hr : rs[i]? = some r) (h0 : r'[0]? = r[0]?) : Apt (rs.set i r'):=by
 have hi : i < rs.length:=(List.getElem?_eq_some_iff.1 hr).1
 have key : ∀ (j : Nat) (s : List Value),(rs.set i r')[j]? = some s → ∃ s',rs[j]? = some s' ∧ s[0]? = s'[0]?:=fun j s hs => by
  by_cases hj : i = j
  ·subst hj
   rw [List.getElem?_set_self hi,Option.some.injEq] at hs
   subst hs
   exact ⟨r,hr,h0⟩
  ·rw [List.getElem?_set_ne hj] at hs
   exact ⟨s,hs,rfl⟩
 intro a b s t u v hab h1 h2 hu hv
 obtain ⟨s',e1,e2⟩:=key a s h1
 obtain ⟨t',e3,e4⟩:=key b t h2
 exact ha a b s' t' u v hab e1 e3 (e2 ▸ hu) (e4 ▸ hv)
theorem HeadIs.set_ {i j : Nat} {r r' : List Value} {v : Value} (h : HeadIs rs j v) (hr : rs[i]? = some r) (h0 : r'[0]? = r[0]?) : HeadIs (rs.set i r') j v:=by
 have hi : i < rs.length:=(List.getElem?_eq_some_iff.1 hr).1
 obtain ⟨s,e1,e2⟩:=h
 by_cases hj : i = j
 ·subst hj
  rw [hr,Option.some.injEq] at e1
  subst e1
  exact ⟨r',List.getElem?_set_self hi,h0.trans e2⟩
 ·exact ⟨s,by rw [List.getElem?_set_ne hj]; exact e1,e2⟩
/-- A bin's number set. -/
theorem XI.cell {yq n c : Nat} (h : XI g V lm bs le mo lv (.slice (some ⟨yq,0,none⟩) n c) rs q wr) (hn : bs.length = n) {i : Nat} {b b' : Bn} (hb : bs[i]? = some b) (o : Nat) (ho : o < 4) (ho1 : 1 ≤ o) (z : Int) (hg : b'.gr = b.gr) (hrow : ∀ A C,([.slice A b.gr.length C,.int .i64 b.w,.int .i64 b.c,.int .i64 b.g] : List Value).set o (.int .i64 z) = [.slice A b'.gr.length C,.int .i64 b'.w,.int .i64 b'.c,.int .i64 b'.g]) :
  ∃ rs',XI g V lm (bs.set i b') le mo lv (.slice (some ⟨yq,0,none⟩) n c) rs' q (wr.setCell ⟨yq,i * 4 + o,none⟩ (.int .i64 z)) ∧ ∀ j v,HeadIs rs j v → HeadIs rs' j v:=by
 subst hn
 have hib : i < bs.length:=(List.getElem?_eq_some_iff.1 hb).1
 have hir : i < rs.length:=by rw [h.bo.len]; exact hib
 obtain ⟨A,C,hr,og⟩:=h.bo.row i rs[i] b (List.getElem?_eq_getElem hir) hb
 have hl:=(h.ob.lt yq rfl).1
 have h0 : (rs[i].set o (.int .i64 z))[0]? = rs[i][0]?:=List.getElem?_set_ne (by omega)
 refine ⟨rs.set i (rs[i].set o (.int .i64 z)),⟨h.k.far (fun e => own_bx h.ob h.k (by decide) (by rw [e]; rfl)) _,store_far h.ob h.ol (by decide),?_,⟨by simp [h.bo.len],fun j r b2 h1 h2 => ?_⟩,h.ft.set_ hl (by have:=h.hg; omega) _ _,h.hq,h.hg,h.ap.set_ (List.getElem?_eq_getElem hir) h0⟩,fun j v hv => hv.set_ (List.getElem?_eq_getElem hir) h0⟩
 ·rw [List.length_set,← flatten_set rs h.bo.four i o rs[i] _ (List.getElem?_eq_getElem hir) ho]
  exact own_store h.ob (i * 4 + o) _ (by omega)
 ·by_cases hj : j = i
  ·subst hj
   rw [List.getElem?_set_self hir] at h1
   rw [List.getElem?_set_self hib] at h2
   simp only [Option.some.injEq] at h1 h2
   subst h1 h2
   refine ⟨A,C,by rw [hr]; exact hrow A C,?_⟩
   rw [hg]
   exact store_far h.ob og (by decide)
  ·rw [List.getElem?_set_ne (Ne.symm hj)] at h1 h2
   obtain ⟨A2,C2,e2,o2⟩:=h.bo.row j r b2 h1 h2
   exact ⟨A2,C2,e2,store_far h.ob o2 (by decide)⟩
/-- What can be read of bin i. -/
theorem XI.at_ {yq n c : Nat} (h : XI g V lm bs le mo lv (.slice (some ⟨yq,0,none⟩) n c) rs q wr) (hn : bs.length = n) {i : Nat} {b : Bn} (hb : bs[i]? = some b) :
  ∃ (G : Option Addr) (gc : Nat),wr.cell? ⟨yq,i * 4,none⟩ = some (.slice G b.gr.length gc) ∧ wr.cell? ⟨yq,i * 4 + 1,none⟩ = some (.int .i64 b.w) ∧ wr.cell? ⟨yq,i * 4 + 2,none⟩ = some (.int .i64 b.c) ∧ wr.cell? ⟨yq,i * 4 + 3,none⟩ = some (.int .i64 b.g) ∧ HeadIs rs i (.slice G b.gr.length gc) ∧ wr.ownsRow V.heap.size 39 2 (.slice G b.gr.length gc) b.gr.length (gnr b.gr).flatten:=by
 subst hn
 have hib : i < bs.length:=(List.getElem?_eq_some_iff.1 hb).1
 have hir : i < rs.length:=by rw [h.bo.len]; exact hib
 obtain ⟨A,C,hr,og⟩:=h.bo.row i rs[i] b (List.getElem?_eq_getElem hir) hb
 obtain ⟨A',c',e,hs⟩:=own_sl h.ob h.bo.four h.bo.len
 simp only [Value.slice.injEq,true_and] at e
 obtain ⟨rfl,rfl⟩:=e
 have hcells:=hs.cells (by omega) h.bo.four
 have cell : ∀ o,o < 4 → wr.cell? ⟨yq,i * 4 + o,none⟩ = rs[i][o]?:=fun o ho => by
  have h4 : rs[i].length = 4:=h.bo.four _ (List.getElem_mem hir)
  have e1 : rs[i][o]? = some rs[i][o]:=List.getElem?_eq_getElem (by omega)
  have e2:=flat_at (s:=4) rs h.bo.four i rs[i] (List.getElem?_eq_getElem hir) o _ e1
  have e3:=hcells _ _ e2
  rw [e1,← e3]
  unfold Addr.add
  split <;> simp_all
 have c0:=cell 0 (by omega)
 have c1:=cell 1 (by omega)
 have c2:=cell 2 (by omega)
 have c3:=cell 3 (by omega)
 rw [hr] at c0 c1 c2 c3
 exact ⟨A,C,c0,c1,c2,c3,⟨rs[i],List.getElem?_eq_getElem hir,by rw [hr]; rfl⟩,og⟩
theorem XI.ord {LA BA : Option Addr} {lc bc ln bn : Nat} (h : XI g V lm bs le mo (.slice LA ln lc) (.slice BA bn bc) rs q wr) (hl : lm.length = ln) (hb : bs.length = bn) : OrdAt wr wr.heap.size LA BA ⟨lm,le,mo,bs⟩:=by
 have ol:=h.ol
 have ob:=h.ob
 rw [hl] at ol
 rw [hb] at ob
 exact ⟨own_inr ol hl,h.bo.at_ ob hb⟩
end
/-- A bin that is easier than another one. -/
structure EzB (b b' : Bn) : Prop where
 w : b'.w = b.w
 c0 : 0 ≤ b'.c
 c : b'.c ≤ b.c
 g : b.g ≤ b'.g
 g5 : b'.g ≤ 5
 len : b'.gr.length = b.gr.length
 gr : ∀ (j : Nat) (p p' : Int × Int),b.gr[j]? = some p → b'.gr[j]? = some p' → 0 ≤ p'.1 ∧ p'.1 ≤ p'.2 ∧ p'.2 ≤ p.2
/-- Bins that are easier, those from i on with as many grabs as before. -/
structure EzBs (bs bs' : List Bn) (i : Nat) : Prop where
 len : bs'.length = bs.length
 row : ∀ (j : Nat) (b b' : Bn),bs[j]? = some b → bs'[j]? = some b' → EzB b b' ∧ (i ≤ j → b'.g = b.g)
theorem EzBs.set_ {bs bs' : List Bn} {i i' k : Nat} {b b' : Bn} (h : EzBs bs bs' i) (hb : bs[k]? = some b) (he : EzB b b') (hi : i ≤ i') (hg : i' ≤ k → b'.g = b.g) : EzBs bs (bs'.set k b') i':=by
 have hk : k < bs'.length:=by rw [h.len]; exact (List.getElem?_eq_some_iff.1 hb).1
 refine ⟨by rw [List.length_set]; exact h.len,fun j a a' h1 h2 => ?_⟩
 by_cases hj : k = j
 ·subst hj
  rw [List.getElem?_set_self hk,Option.some.injEq] at h2
  subst h2
  rw [hb,Option.some.injEq] at h1
  subst h1
  exact ⟨he,hg⟩
 ·rw [List.getElem?_set_ne hj] at h2
  obtain ⟨k1,k2⟩:=h.row j a a' h1 h2
  exact ⟨k1,fun h => k2 (by omega)⟩
/-- Limits that are higher, those from i on as before. -/
structure EzL (lm lm' : List Int) (i : Nat) : Prop where
 len : lm'.length = lm.length
 row : ∀ (j : Nat) (a b : Int),lm[j]? = some a → lm'[j]? = some b → a ≤ b ∧ b ≤ a + 49 ∧ (i ≤ j → b = a)
theorem EzL.start (lm : List Int) : EzL lm lm 0:=⟨rfl,fun j a b h1 h2 => by rw [h1,Option.some.injEq] at h2; subst h2; exact ⟨by omega,by omega,fun _ => rfl⟩⟩
theorem EzL.step {lm lm' : List Int} {i : Nat} (h : EzL lm lm' i) {a : Int} (ha : lm[i]? = some a) {z : Int} (hz : 0 ≤ z) (hz2 : z ≤ 49) : EzL lm (lm'.set i (a + z)) (i + 1):=by
 have hk : i < lm'.length:=by rw [h.len]; exact (List.getElem?_eq_some_iff.1 ha).1
 refine ⟨by rw [List.length_set]; exact h.len,fun j b c h1 h2 => ?_⟩
 by_cases hj : i = j
 ·subst hj
  rw [List.getElem?_set_self hk,Option.some.injEq] at h2
  subst h2
  rw [ha,Option.some.injEq] at h1
  subst h1
  exact ⟨by omega,by omega,fun h => by omega⟩
 ·rw [List.getElem?_set_ne hj] at h2
  obtain ⟨k1,k2,k3⟩:=h.row j b c h1 h2
  exact ⟨k1,k2,fun h => k3 (by omega)⟩
theorem EzBs.start {o : Od} (h : Small o 3 2 4) : EzBs o.bs o.bs 0:=⟨rfl,fun j b b' h1 h2 => by
 rw [h1,Option.some.injEq] at h2
 subst h2
 obtain ⟨p1,p2,p3,p4,p5,p6,p7,p8⟩:=h.bn b (List.mem_of_getElem? h1)
 refine ⟨⟨rfl,p5,Int.le_refl _,Int.le_refl _,by omega,rfl,fun j p p' e1 e2 => ?_⟩,fun _ => rfl⟩
 rw [e1,Option.some.injEq] at e2
 subst e2
 have:=p2 p (List.mem_of_getElem? e1)
 omega⟩
end Go.Proofs.Ytmemcopfeabcgaa

/-! melt.claim.plainProof, Prove, where there is no plain proof: the panic is caught. -/
namespace Go.Proofs.Ytmemcopfeabcgaa
open Go Go.RowKit
set_option maxRecDepth 100000 in
set_option maxHeartbeats 1000000 in
theorem catch_take (b2 b3 : Nat) (d : Nat → Int) (x y : Value) (w : World) (h2 : Bx w b2 51 #[x]) (h3 : Bx w b3 30 #[y]) (hne : b2 ≠ b3) :
  CallsD Try.prog 88 #[.pointer (some ⟨b2,0,none⟩),.pointer (some ⟨b3,0,none⟩)] (.panicking [{ v:=.iface 81 (.agg (barr d)),recovered:=false }]) w fun e u' w' => e = .returned (.tuple #[]) ∧ u' = .panicking [{ v:=.iface 81 (.agg (barr d)),recovered:=true }] ∧ w' = (w.setCell ⟨b2,0,none⟩ (.slice none 0 0)).setCell ⟨b3,0,none⟩ (.int .i64 13):=by
 have h3' : Bx (w.setCell ⟨b2,0,none⟩ (.slice none 0 0)) b3 30 #[y]:=h3.far (by simpa using Ne.symm hne) _
 obtain ⟨a0,af,az⟩:=h2.one
 obtain ⟨c0,cf,cz⟩:=h3'.one
 refine callsD_of_wpS Try.func88 rfl fun c₀ cs hu => ?_
 apply wpS_seq
 apply wpS_region
 simp [wpOpsS,go_sem,recoverD,hu,Try.ntmps88,Exit.thenS]
 refine wpS_cond (t:=true) (by simp [Act.eval,Array.replicate]) ?_
 simp only [if_true]
 refine wpS_of_wp ?_
 go_wp2
 cases c₀
 simp_all [bodyPostS,results,Try.results88]
/-- A statement that panics with a blend; what the results' slots hold. -/
def PanQ (R : World → Prop) (x y : Value) (ds : List Deferred) : Exit → Act → World → Prop
 | .panic c,a,w => a.tmps.getD 2 undef = x ∧ a.tmps.getD 3 undef = y ∧ a.defers = ds ∧ (∃ d,c = [{ v:=.iface 81 (.agg (barr d)),recovered:=false }]) ∧ R w
 | _,_,_ => False
theorem wp_pan {P : Program} {s : Code} {R : World → Prop} {x y : Value} {ds : List Deferred} {Q : Exit → Act → World → Prop} {a : Act} {w : World} (h : s.wp P (PanQ R x y ds) a w) (hq : ∀ d a w,a.tmps.getD 2 undef = x → a.tmps.getD 3 undef = y → a.defers = ds → R w → Q (.panic [{ v:=.iface 81 (.agg (barr d)),recovered:=false }]) a w) : s.wp P Q a w:=by
 refine wp_mono h ?_
 intro e a' w' hp
 cases e with
 | panic c => obtain ⟨h1,h2,h3,⟨d,rfl⟩,h4⟩:=hp; exact hq d a' w' h1 h2 h3 h4
 | _ => exact hp.elim
theorem panQ_put {R : World → Prop} {x y : Value} {ds : List Deferred} {c : List PanicEntry} {a : Act} {w : World} {k : Nat} {v : Value} (h2 : k ≠ 2) (h3 : k ≠ 3) (h : PanQ R x y ds (.panic c) (a.put (some k) v) w) : PanQ R x y ds (.panic c) a w:=by
 obtain ⟨e1,e2,e3,e4,e5⟩:=h
 refine ⟨?_,?_,e3,e4,e5⟩
 ·rw [← e1]; simp only [Act.put,Array.getD_eq_getD_getElem?]; rw [Array.getElem?_setIfInBounds_ne h2]
 ·rw [← e2]; simp only [Act.put,Array.getD_eq_getD_getElem?]; rw [Array.getElem?_setIfInBounds_ne h3]
set_option maxRecDepth 100000 in
set_option maxHeartbeats 2000000 in
theorem plainProof_none (LA : Option Addr) (ln lc : Nat) (BA : Option Addr) (bn bc : Nat) (o : Od) (p : Int) (fuel : Nat) (w : World) (hl : o.lm.length = ln) (hb' : o.bs.length = bn) (hA : OrdAt w w.heap.size LA BA o) (ho : o.Ok) (hf : wid zer o.mx < fuel) (hp : prf o p fuel zer o.mx = none) :
  Calls Try.prog 63 #[.agg #[.slice LA ln lc,.int .i64 o.le,.int .i64 o.mo,.slice BA bn bc,.int .i64 p]] w fun e w' => e = .returned (.tuple #[.slice none 0 0,.int .i64 13]) ∧ Below w.heap.size w w':=by
 have hmf : ∀ (fn : Fn) (first cap : Array Value) (w : World),(Instr.makeFunc fn first cap).run Try.prog w = .ok (.func fn first cap) w:=fun _ _ _ _ => rfl
 have k1:=((Bx.new w 100 #[.slice LA ln lc,.int .i64 o.le,.int .i64 o.mo,.slice BA bn bc,.int .i64 p]).alloc (.cells #[.slice none 0 0] 51)).alloc (.cells #[.int .i64 0] 30)
 have k2:=(Bx.at (w.alloc (.cells #[.slice LA ln lc,.int .i64 o.le,.int .i64 o.mo,.slice BA bn bc,.int .i64 p] 100)) 51 #[.slice none 0 0] (n:=w.heap.size + 1) (by simp)).alloc (.cells #[.int .i64 0] 30)
 have k3:=Bx.at ((w.alloc (.cells #[.slice LA ln lc,.int .i64 o.le,.int .i64 o.mo,.slice BA bn bc,.int .i64 p] 100)).alloc (.cells #[.slice none 0 0] 51)) 30 #[.int .i64 0] (n:=w.heap.size + 1 + 1) (by simp)
 have B0:=(((Below.refl w.heap.size w).alloc (Nat.le_refl _) (.cells #[.slice LA ln lc,.int .i64 o.le,.int .i64 o.mo,.slice BA bn bc,.int .i64 p] 100)).alloc (by simp) (.cells #[.slice none 0 0] 51)).alloc (by simp; omega) (.cells #[.int .i64 0] 30)
 have HB:=Lib.hid hb'
 have HL:=Lib.hid hl
 have HO:=Lib.hid ho
 have HP:=Lib.hid hp
 clear hb' hl ho hp
 go_enter_defers Try.func63,Try.ntmps63
 go_wp2
 refine wp_pan (R:=(fun w' : World => Bx w' w.heap.size 100 #[.slice LA ln lc,.int .i64 o.le,.int .i64 o.mo,.slice BA bn bc,.int .i64 p] ∧ (∃ x,Bx w' (w.heap.size + 1) 51 #[x]) ∧ (∃ y,Bx w' (w.heap.size + 1 + 1) 30 #[y]) ∧ Below w.heap.size w w')) (x:=.pointer (some ⟨w.heap.size + 1,0,none⟩)) (y:=.pointer (some ⟨w.heap.size + 1 + 1,0,none⟩)) (ds:=[{ target:=.fn (.func 88) #[.pointer (some ⟨w.heap.size + 1,0,none⟩),.pointer (some ⟨w.heap.size + 1 + 1,0,none⟩)],args:=#[] }]) ?_ ?_
 ·refine AnyG.startC (by kernel_rfl) ?_
  refine AnyG.takeP (i:=1) (v:=?_) rfl (by kernel_rfl) (fun _ _ _ h => panQ_put (by decide) (by decide) h) rfl ?_ ?_
  rotate_left
  ·(intro w'; go_simp; try with_reducible rfl)
  try simp only [Act.put,Sp1,Sp2,Sp3,Sp4,Sp5,Sp6]
  refine AnyG.enter (fun w' : World => Bx w' w.heap.size 100 #[.slice LA ln lc,.int .i64 o.le,.int .i64 o.mo,.slice BA bn bc,.int .i64 p] ∧ (∃ x,Bx w' (w.heap.size + 1) 51 #[x]) ∧ (∃ y,Bx w' (w.heap.size + 1 + 1) 30 #[y]) ∧ Below w.heap.size w w') (fun i => i != 6 && i != 5 && i != 4) ?_
  have hS : (fun w' : World => Bx w' w.heap.size 100 #[.slice LA ln lc,.int .i64 o.le,.int .i64 o.mo,.slice BA bn bc,.int .i64 p] ∧ (∃ x,Bx w' (w.heap.size + 1) 51 #[x]) ∧ (∃ y,Bx w' (w.heap.size + 1 + 1) 30 #[y]) ∧ Below w.heap.size w w') (World.drew _):=⟨k1.drew,⟨_,k2.drew⟩,⟨_,k3.drew⟩,B0.drew⟩
  refine AnyG.takeC (i:=0) (v:=?_) rfl (by kernel_rfl) (fun _ _ _ h => panQ_put (by decide) (by decide) h) rfl ?_ hS ?_
  rotate_left
  ·(intro w' hSw; (try dsimp only at hSw); obtain ⟨c0,c1,c2,c3,c4,cf,cz⟩:=hSw.1.five; go_simp; try with_reducible rfl)
  try simp only [Act.put,Sp1,Sp2,Sp3,Sp4,Sp5,Sp6]
  refine AnyG.takeC (i:=2) (v:=?_) rfl (by kernel_rfl) (fun _ _ _ h => panQ_put (by decide) (by decide) h) rfl ?_ hS ?_
  rotate_left
  ·(intro w' hSw; (try dsimp only at hSw); obtain ⟨c0,c1,c2,c3,c4,cf,cz⟩:=hSw.1.five; go_simp; try with_reducible rfl)
  try simp only [Act.put,Sp1,Sp2,Sp3,Sp4,Sp5,Sp6]
  refine AnyG.one (i:=3) (by kernel_rfl) rfl rfl ?_
  go_simp
  refine (wholeBox_any LA ln lc BA bn bc o _ HL.out HB.out ((hA.below hS.2.2.2).more hS.2.2.2.size) HO.out).mono ?_
  rintro e3 y3 ⟨rfl,hq3⟩
  obtain ⟨s1,⟨x2,s2⟩,⟨x3,s3⟩,s4⟩:=hS
  have hT : (fun w' : World => Bx w' w.heap.size 100 #[.slice LA ln lc,.int .i64 o.le,.int .i64 o.mo,.slice BA bn bc,.int .i64 p] ∧ (∃ x,Bx w' (w.heap.size + 1) 51 #[x]) ∧ (∃ y,Bx w' (w.heap.size + 1 + 1) 30 #[y]) ∧ Below w.heap.size w w') y3:=⟨s1.call hq3,⟨_,s2.call hq3⟩,⟨_,s3.call hq3⟩,s4.trans (hq3.mono s4.size)⟩
  have hS:=hT
  clear hT s1 s2 s3 s4
  refine Onward.on hS (fun hS2 => ?_)
  clear hS
  have hS:=hS2
  clear hS2
  try simp only [Act.put,Sp1,Sp2,Sp3,Sp4,Sp5,Sp6]
  refine AnyG.one (i:=4) (by kernel_rfl) rfl rfl ?_
  go_simp
  refine (prove_none LA ln lc BA bn bc o p w.heap.size HO.out HL.out HB.out fuel zer o.mx (.slice none 0 0) 0 [] _ HO.out.mx hf HP.out (hA.below hS.2.2.2) (World.ownsRow_nil _ _ _ _) hS.2.2.2.size (by have:=tot_bd HO.out.mx; omega)).mono ?_
  rintro e4 y4 ⟨⟨d,rfl⟩,r2⟩
  obtain ⟨s1,⟨x2,s2⟩,⟨x3,s3⟩,s4⟩:=hS
  have hT : (fun w' : World => Bx w' w.heap.size 100 #[.slice LA ln lc,.int .i64 o.le,.int .i64 o.mo,.slice BA bn bc,.int .i64 p] ∧ (∃ x,Bx w' (w.heap.size + 1) 51 #[x]) ∧ (∃ y,Bx w' (w.heap.size + 1 + 1) 30 #[y]) ∧ Below w.heap.size w w') y4:=⟨s1.grown r2 (by simp [Value.ownBlock]),⟨_,s2.grown r2 (by simp [Value.ownBlock])⟩,⟨_,s3.grown r2 (by simp [Value.ownBlock])⟩,s4.grown r2 s4.size (fun k e => by simp [Value.ownBlock] at e)⟩
  exact ⟨by simp,by simp,rfl,⟨d,rfl⟩,hT⟩
 ·intro d a9 w9 h1 h2 h3 hR
  obtain ⟨s1,⟨x2,s2⟩,⟨x3,s3⟩,s4⟩:=hR
  obtain ⟨tm,df⟩:=a9
  dsimp only at h1 h2 h3
  subst h3
  refine leaves_cons (fn:=Try.f63) (tmps:=tm) (ds:=[]) (u:=.panicking [{ v:=.iface 81 (.agg (barr d)),recovered:=false }]) (f:=88) (args:=#[.pointer (some ⟨w.heap.size + 1,0,none⟩),.pointer (some ⟨w.heap.size + 1 + 1,0,none⟩)]) (by simp) (by simp [go_sem]) ?_
  refine (catch_take _ _ d x2 x3 w9 s2 s3 (by omega)).mono ?_
  rintro e u' w'' ⟨rfl,rfl,rfl⟩
  have z2 : Bx ((w9.setCell ⟨w.heap.size + 1,0,none⟩ (.slice none 0 0)).setCell ⟨w.heap.size + 1 + 1,0,none⟩ (.int .i64 13)) (w.heap.size + 1) 51 #[.slice none 0 0]:=(s2.set_ 0 _).far (by simp) _
  have z3 : Bx ((w9.setCell ⟨w.heap.size + 1,0,none⟩ (.slice none 0 0)).setCell ⟨w.heap.size + 1 + 1,0,none⟩ (.int .i64 13)) (w.heap.size + 1 + 1) 30 #[.int .i64 13]:=(s3.far (by simp) _).set_ 0 _
  have hlow : Below w.heap.size w ((w9.setCell ⟨w.heap.size + 1,0,none⟩ (.slice none 0 0)).setCell ⟨w.heap.size + 1 + 1,0,none⟩ (.int .i64 13)):=(s4.setCell (by simp) _).setCell (by simp; omega) _
  generalize (w9.setCell ⟨w.heap.size + 1,0,none⟩ (.slice none 0 0)).setCell ⟨w.heap.size + 1 + 1,0,none⟩ (.int .i64 13) = W9 at *
  obtain ⟨a0,af,az⟩:=z2.one
  obtain ⟨b0,bf,bz⟩:=z3.one
  have h1' : tm[2]?.getD undef = .pointer (some ⟨w.heap.size + 1,0,none⟩):=by simpa using h1
  have h2' : tm[3]?.getD undef = .pointer (some ⟨w.heap.size + 1 + 1,0,none⟩):=by simpa using h2
  simp [Leaves,settle,results,Try.results63,go_sem,a0,b0,h1',h2']
  exact hlow
set_option maxRecDepth 100000 in
set_option maxHeartbeats 2000000 in
theorem prove_no (LA : Option Addr) (ln lc : Nat) (BA : Option Addr) (bn bc : Nat) (o : Od) (p : Int) (fuel : Nat) (w : World) (hln : ln ≤ 9223372036854775807) (hbn : bn ≤ 9223372036854775807) (hl : o.lm.length = ln) (hb' : o.bs.length = bn) (hA : OrdAt w w.heap.size LA BA o) (ho : o.Ok) (hpp : 0 ≤ p ∧ p ≤ 300000000) (hf : wid zer o.mx < fuel) (hp : prf o p fuel zer o.mx = none) :
  Calls Try.prog 26 #[.agg #[.slice LA ln lc,.int .i64 o.le,.int .i64 o.mo,.slice BA bn bc],.int .i64 p] w fun e w' => e = .returned (.tuple #[.slice none 0 0,.int .i64 13]) ∧ Below w.heap.size w w':=by
 have k1:=Bx.new w 27 #[.slice LA ln lc,.int .i64 o.le,.int .i64 o.mo,.slice BA bn bc]
 have B0:=(Below.refl w.heap.size w).alloc (Nat.le_refl _) (.cells #[.slice LA ln lc,.int .i64 o.le,.int .i64 o.mo,.slice BA bn bc] 27)
 have hck:=checkPrice_ok LA ln lc BA bn bc o p (w.alloc (.cells #[.slice LA ln lc,.int .i64 o.le,.int .i64 o.mo,.slice BA bn bc] 27)) hln hbn hl hb' ((hA.below B0).more B0.size) ho hpp
 have HB:=Lib.hid hb'
 have HL:=Lib.hid hl
 have HO:=Lib.hid ho
 have HP:=Lib.hid hp
 clear hb' hl ho hp
 obtain ⟨c0,c1,c2,c3,cf,cz⟩:=k1.four
 go_enter Try.func26,Try.ntmps26
 go_wp2_with (first | (go_at_call 62; refine hck.mono ?_; rintro e w1 ⟨rfl,hb1⟩; have k2:=k1.call hb1; have B1:=B0.trans (hb1.mono B0.size); clear c0 c1 c2 c3 cf cz; obtain ⟨c0,c1,c2,c3,cf,cz⟩:=k2.four) | (go_at_call 63; refine (plainProof_none LA ln lc BA bn bc o p fuel _ HL.out HB.out ((hA.below B1).more B1.size) HO.out hf HP.out).mono ?_; rintro e w2 ⟨rfl,hb2⟩; have B2:=B1.trans (hb2.mono B1.size)))
 refine bodyPost_ret (v:=.tuple #[.slice none 0 0,.int .i64 13]) (by simp [results,Try.results26,go_sem]) rfl ⟨rfl,B2⟩
end Go.Proofs.Ytmemcopfeabcgaa
