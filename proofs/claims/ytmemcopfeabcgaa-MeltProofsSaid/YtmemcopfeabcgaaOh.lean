/- A bound and a row of bounds as arguments. -/
import Derived.Test.YtmemcopfeabcgaaOg
import Derived.Test.YtmemcopfeabcgaaPpM
set_option linter.unusedSimpArgs false
set_option linter.unusedVariables false
namespace Go.Proofs.Ytmemcopfeabcgaa.opened
open Go Go.ChangeShapes Go.WideShapes Go.ChangeAt Go.RowKit
theorem cells69 : Try.prog.cellsOf 69 = 3:=by kernel_rfl
theorem len3 {l : List Value} (h : l.length = 3) : ∃ a b c,l = [a,b,c]:=by
 match l,h with
 | [a,b,c],_ => exact ⟨a,b,c,rfl⟩
section
variable {H : Type} {enc : TypeId × Value → H} {w : World} {base : Nat} {spare : Nat → Bool} {held : Bool}
set_option maxRecDepth 100000 in
theorem open_bound {fuel : Nat} {cs : List Value} {x : DataW H × List MemPlace} (h : DataW.trod enc Try.prog w base spare held fuel 69 cs = some x) : ∃ r : Bd,cs = bdr r:=by
 obtain ⟨xs,n,_,_,hl,hlen,hf⟩:=DataW.trod_struct Try.underlying69 h
 rw [cells69] at hl
 obtain ⟨c0,c1,c2,rfl⟩:=len3 hl
 ·have e0:=hf 0 _ rfl
  have e1:=hf 1 _ rfl
  have e2:=hf 2 _ rfl
  simp only [Sp1,Sp3,Sp2] at e0 e1 e2
  rw [cells3,List.getElem?_eq_getElem (by rw [hlen]; decide)] at e0 e1 e2
  obtain ⟨a,ha,_⟩:=DataW.trod_int Try.underlying3 e0
  obtain ⟨b,hb,_⟩:=DataW.trod_int Try.underlying3 e1
  obtain ⟨c,hc,_⟩:=DataW.trod_int Try.underlying3 e2
  simp at ha hb hc
  exact ⟨⟨a,b,c⟩,by rw [ha,hb,hc]; rfl⟩
theorem open_bounds {fuel : Nat} {v : Value} {x : DataW H × List MemPlace} (h : DataW.trod enc Try.prog w base spare held fuel 51 [v] = some x) : ∃ (A : Option Addr) (len cap : Nat) (L : List Bd),v = .slice A len cap ∧ L.length = len ∧ len ≤ 9223372036854775807 ∧ len ≤ cap ∧ Sl w w.heap.size 3 A (L.map bdr):=by
 rcases Go.Deep.open_slice Try.underlying51 h with ⟨hcs,_⟩ | ⟨a,len,cap,m,n,D,Pl,hcs,hb,hl,hm,hmm,hx,hi⟩
 ·simp at hcs
  exact ⟨none,0,0,[],hcs,rfl,by omega,by omega,Sl.nil _ _ _ _⟩
 ·simp at hcs
  have hlm : len ≤ m:=by rw [hmm]; split <;> omega
  obtain ⟨es,h1,h2⟩:=list_of (P:=fun i (e : Bd) => w.cells? base (a.add (i * 3)) 3 = some (bdr e)) len fun i him => by
   obtain ⟨cs',hc,ht⟩:=hi i (by omega)
   rw [cells69] at hc
   obtain ⟨r,rfl⟩:=open_bound ht
   exact ⟨r,hc⟩
  refine ⟨some a,len,cap,es,hcs,h1,by unfold maxLen at hm; omega,by omega,sl_of (base:=base) (by omega) fun k r hr => ?_⟩
  rw [List.getElem?_map] at hr
  cases he : es[k]? with
  | none => rw [he] at hr; cases hr
  | some e =>
   rw [he] at hr
   simp only [Option.map_some,Option.some.injEq] at hr
   subst hr
   exact h2 k e he
set_option maxRecDepth 100000 in
theorem open_bnds {r : Reach} {b0 : Nat} {v : Value} {d : DataW H} {p : List MemPlace} (hv : Value.okWide Try.prog w r b0 51 v) (h : DataW.Trod enc Try.prog w base spare held 51 v d p) : ∃ (A : Option Addr) (len cap : Nat) (L : List Bd),v = .slice A len cap ∧ L.length = len ∧ len ≤ 9223372036854775807 ∧ len ≤ cap ∧ Sl w w.heap.size 3 A (L.map bdr):=by
 obtain ⟨A,len,cap,rfl⟩:=okWide_slice Try.underlying51 hv
 obtain ⟨fuel,hf⟩:=h
 obtain ⟨A',len',cap',L,e,h1,h2,h3,h4⟩:=open_bounds (v:=.slice A len cap) (by simpa [Value.cells] using hf)
 exact ⟨A',len',cap',L,e,h1,h2,h3,h4⟩
set_option maxRecDepth 100000 in
theorem open_bnd {r : Reach} {b0 : Nat} {v : Value} {d : DataW H} {p : List MemPlace} (hv : Value.okWide Try.prog w r b0 69 v) (h : DataW.Trod enc Try.prog w base spare held 69 v d p) : ∃ e : Bd,v = .agg #[.int .i64 e.rs,.int .i64 e.at_,.int .i64 e.ct]:=by
 obtain ⟨cs,rfl,hsz⟩:=okWide_struct Try.underlying69 hv
 obtain ⟨l⟩:=cs
 obtain ⟨fuel,hf⟩:=h
 obtain ⟨e,he⟩:=open_bound hf
 simp only [Value.cells] at he
 refine ⟨e,?_⟩
 have : l = bdr e:=by simpa using he
 rw [this]
 rfl
theorem int_bd {n : Int} (h : (Lit.int .i64 n).wf = true) : -9223372036854775808 ≤ n ∧ n ≤ 9223372036854775807:=by
 simp [Lit.wf,IntKind.min,IntKind.max,IntKind.signed,IntKind.bits] at h
 omega
set_option maxRecDepth 100000 in
theorem open_num {r : Reach} {b0 : Nat} {v : Value} {d : DataW H} {p : List MemPlace} (hv : Value.okWide Try.prog w r b0 3 v) (h : DataW.Trod enc Try.prog w base spare held 3 v d p) : ∃ n : Int,v = .int .i64 n ∧ -9223372036854775808 ≤ n ∧ n ≤ 9223372036854775807:=by
 obtain ⟨n,rfl⟩:=okWide_int Try.underlying3 hv
 obtain ⟨fuel,hf⟩:=h
 obtain ⟨k,hk,_,hw⟩:=DataW.trod_int Try.underlying3 hf
 simp [Value.cells] at hk
 subst hk
 exact ⟨n,rfl,int_bd hw⟩
set_option maxRecDepth 100000 in
theorem six_open {a b c d e f : TypeId} {args : Array Value} {ds : List (DataW H)} {ps : List MemPlace} (h : DataW.TrodAll enc Try.prog w base spare held [a,b,c,d,e,f] args.toList ds ps) :
  ∃ v0 v1 v2 v3 v4 v5 d0 d1 d2 d3 d4 d5 p0 p1 p2 p3 p4 p5,args = #[v0,v1,v2,v3,v4,v5] ∧ ds = [d0,d1,d2,d3,d4,d5] ∧ ps = p0 ++ (p1 ++ (p2 ++ (p3 ++ (p4 ++ p5)))) ∧ DataW.Trod enc Try.prog w base spare held a v0 d0 p0 ∧ DataW.Trod enc Try.prog w base spare held b v1 d1 p1 ∧ DataW.Trod enc Try.prog w base spare held c v2 d2 p2 ∧ DataW.Trod enc Try.prog w base spare held d v3 d3 p3 ∧ DataW.Trod enc Try.prog w base spare held e v4 d4 p4 ∧ DataW.Trod enc Try.prog w base spare held f v5 d5 p5:=by
 obtain ⟨v0,w0,d0,e0,p0,q0,hargs,rfl,rfl,g0,h0⟩:=trodAll_cons h
 obtain ⟨v1,w1,d1,e1,p1,q1,rfl,rfl,rfl,g1,h1⟩:=trodAll_cons h0
 obtain ⟨v2,w2,d2,e2,p2,q2,rfl,rfl,rfl,g2,h2⟩:=trodAll_cons h1
 obtain ⟨v3,w3,d3,e3,p3,q3,rfl,rfl,rfl,g3,h3⟩:=trodAll_cons h2
 obtain ⟨v4,w4,d4,e4,p4,q4,rfl,rfl,rfl,g4,h4⟩:=trodAll_cons h3
 obtain ⟨v5,w5,d5,e5,p5,q5,rfl,rfl,rfl,g5,h5⟩:=trodAll_cons h4
 obtain ⟨rfl,rfl,rfl⟩:=trodAll_nil h5
 exact ⟨v0,v1,v2,v3,v4,v5,d0,d1,d2,d3,d4,d5,p0,p1,p2,p3,p4,p5,by cases args; simp_all,rfl,by simp,g0,g1,g2,g3,g4,g5⟩
theorem six_mk {spare : Nat → Bool} {a b c d e f : TypeId} {v0 v1 v2 v3 v4 v5 : Value} {d0 d1 d2 d3 d4 d5 : DataW H} {p0 p1 p2 p3 p4 p5 : List MemPlace} (h0 : DataW.Trod enc Try.prog w base spare held a v0 d0 p0) (h1 : DataW.Trod enc Try.prog w base spare held b v1 d1 p1) (h2 : DataW.Trod enc Try.prog w base spare held c v2 d2 p2) (h3 : DataW.Trod enc Try.prog w base spare held d v3 d3 p3) (h4 : DataW.Trod enc Try.prog w base spare held e v4 d4 p4) (h5 : DataW.Trod enc Try.prog w base spare held f v5 d5 p5) :
  DataW.TrodAll enc Try.prog w base spare held [a,b,c,d,e,f] [v0,v1,v2,v3,v4,v5] [d0,d1,d2,d3,d4,d5] (p0 ++ (p1 ++ (p2 ++ (p3 ++ (p4 ++ p5))))) :=
 ⟨p0,_,h0,⟨p1,_,h1,trodAll_mk4 h2 h3 h4 h5,rfl⟩,rfl⟩
end
end Go.Proofs.Ytmemcopfeabcgaa.opened
