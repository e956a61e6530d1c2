/- An order, a blend and a row of numbers as arguments. -/
import Derived.Test.YtmemcopfeabcgaaOaM
import Derived.ProofKit
import Derived.SizedLaws
import Derived.Deep.Slices
import Derived.Carry
set_option linter.unusedSimpArgs false
set_option linter.unusedVariables false
namespace Go.Proofs.Ytmemcopfeabcgaa.opened
open Go Go.ChangeShapes Go.WideShapes Go.ChangeAt Go.RowKit
theorem own : ownKnob Try.prog.godebug = none:=by kernel_rfl
theorem laidOut : laidOutB Try.prog = true:=by kernel_rfl
theorem cells3 : Try.prog.cellsOf 3 = 1:=by kernel_rfl
theorem cells22 : Try.prog.cellsOf 22 = 1:=by kernel_rfl
theorem cells25 : Try.prog.cellsOf 25 = 1:=by kernel_rfl
theorem cells27 : Try.prog.cellsOf 27 = 4:=by kernel_rfl
theorem cells39 : Try.prog.cellsOf 39 = 2:=by kernel_rfl
theorem cells40 : Try.prog.cellsOf 40 = 1:=by kernel_rfl
theorem cells42 : Try.prog.cellsOf 42 = 4:=by kernel_rfl
theorem bytes3 : Try.prog.bytesOf 3 = 8:=by kernel_rfl
theorem len2 {l : List Value} (h : l.length = 2) : ∃ a b,l = [a,b]:=by
 match l,h with
 | [a,b],_ => exact ⟨a,b,rfl⟩
theorem len4 {l : List Value} (h : l.length = 4) : ∃ a b c d,l = [a,b,c,d]:=by
 match l,h with
 | [a,b,c,d],_ => exact ⟨a,b,c,d,rfl⟩
theorem list_of {α : Type} {P : Nat → α → Prop} : ∀ n : Nat,(∀ i,i < n → ∃ e,P i e) → ∃ es : List α,es.length = n ∧ ∀ i e,es[i]? = some e → P i e:=by
 intro n
 induction n with
 | zero => intro _; exact ⟨[],rfl,fun i e h => by simp at h⟩
 | succ n ih =>
  intro h
  obtain ⟨es,hl,he⟩:=ih fun i hi => h i (by omega)
  obtain ⟨e,hp⟩:=h n (by omega)
  refine ⟨es ++ [e],by simp [hl],fun i x hx => ?_⟩
  by_cases hi : i < n
  ·rw [List.getElem?_append_left (by omega)] at hx
   exact he i x hx
  ·rw [List.getElem?_append_right (by omega)] at hx
   have h0 : i - es.length = 0:=by
    rcases Nat.eq_zero_or_pos (i - es.length) with h | h
    ·exact h
    ·rw [List.getElem?_eq_none (by simp; omega)] at hx; cases hx
   rw [h0] at hx
   simp only [List.getElem?_cons_zero,Option.some.injEq] at hx
   subst hx
   rw [show i = n by omega]
   exact hp
/-- Cells that a slice's places hold are its rows. -/
theorem sl_of {w : World} {base s : Nat} {a : Addr} {rs : List (List Value)} (hs : 0 < s) (h : ∀ i r,rs[i]? = some r → w.cells? base (a.add (i * s)) s = some r) : Sl w w.heap.size s (some a) rs:=by
 intro k r hr
 obtain ⟨_,hcl,hat⟩:=World.cells?_some (h k r hr)
 have h0:=hat 0 (by omega)
 refine ⟨a,rfl,?_,fun j u hu => ?_⟩
 ·have hh:=World.block_lt_of_cell? w _ (h0.trans (List.getElem?_eq_getElem (by omega)))
  rwa [add_block,add_block] at hh
 ·have hj : j < s:=by
   have:=(List.getElem?_eq_some_iff.1 hu).1
   omega
  rw [hat j hj]
  exact hu
theorem row_sl {w : World} {a : Addr} {len : Nat} {zs : List Int} (hlz : len ≤ zs.length) (hcell : ∀ i,i < zs.length → w.cell? (a.add i) = some (.int .i64 (zs.getD i 0))) : (zs.take len).length = len ∧ Sl w w.heap.size 1 (some a) (inr (zs.take len)):=by
 have hlen : (zs.take len).length = len:=by simp; omega
 refine ⟨hlen,?_⟩
 intro k r hr
 have hk : k < (zs.take len).length:=by
  have:=(List.getElem?_eq_some_iff.1 hr).1
  simpa [inr] using this
 have hkl : k < len:=by rw [hlen] at hk; exact hk
 have hrr : r = [.int .i64 (zs.take len)[k]]:=by
  have h1 : (inr (zs.take len))[k]? = some [.int .i64 (zs.take len)[k]]:=by
   show ((zs.take len).map fun a => [Value.int .i64 a])[k]? = _
   rw [List.getElem?_map,List.getElem?_eq_getElem hk]
   rfl
  rw [h1] at hr
  exact (Option.some.inj hr).symm
 subst hrr
 have hc:=hcell k (by omega)
 refine ⟨a,rfl,by have h:=World.block_lt_of_cell? w _ hc; rwa [add_block] at h,fun j u hu => ?_⟩
 match j,hu with
 | 0,hu =>
  obtain rfl : Value.int .i64 (zs.take len)[k] = u:=by simpa using hu
  rw [Nat.mul_one,add_add,Nat.add_zero,hc]
  simp [List.getD,List.getElem?_eq_getElem (show k < zs.length by omega)]
 | j + 1,hu => simp at hu
section
variable {H : Type} {enc : TypeId × Value → H} {w : World} {base : Nat} {spare : Nat → Bool} {held : Bool}
theorem open_row {fuel : Nat} {v : Value} {x : DataW H × List MemPlace} (h : DataW.trod enc Try.prog w base spare held fuel 22 [v] = some x) : ∃ (A : Option Addr) (len cap : Nat) (l : List Int),v = .slice A len cap ∧ l.length = len ∧ len ≤ 9223372036854775807 ∧ Sl w w.heap.size 1 A (inr l):=by
 rcases open_ints Try.underlying22 Try.underlying3 cells3 h with ⟨hcs,_⟩ | ⟨a,len,cap,zs,hcs,_,hl,hm,hz,_,hcell,_⟩
 ·simp at hcs
  exact ⟨none,0,0,[],hcs,rfl,by omega,Sl.nil _ _ _ _⟩
 ·simp at hcs
  have hlz : len ≤ zs.length:=by rw [hz]; split <;> omega
  obtain ⟨h1,h2⟩:=row_sl hlz hcell
  exact ⟨some a,len,cap,zs.take len,hcs,h1,by unfold maxLen at hm; omega,h2⟩
set_option maxRecDepth 100000 in
theorem open_pair {fuel : Nat} {cs : List Value} {x : DataW H × List MemPlace} (h : DataW.trod enc Try.prog w base spare held fuel 39 cs = some x) : ∃ a b : Int,cs = [.int .i64 a,.int .i64 b]:=by
 obtain ⟨xs,n,_,_,hl,hlen,hf⟩:=DataW.trod_struct Try.underlying39 h
 rw [cells39] at hl
 obtain ⟨c0,c1,rfl⟩:=len2 hl
 ·have e0:=hf 0 _ rfl
  have e1:=hf 1 _ rfl
  simp only [Sp1,Sp3,Sp2] at e0 e1
  rw [cells3,List.getElem?_eq_getElem (by rw [hlen]; decide)] at e0 e1
  obtain ⟨a,ha,_⟩:=DataW.trod_int Try.underlying3 e0
  obtain ⟨b,hb,_⟩:=DataW.trod_int Try.underlying3 e1
  simp at ha hb
  exact ⟨a,b,by rw [ha,hb]⟩
theorem open_grams {fuel : Nat} {v : Value} {x : DataW H × List MemPlace} (h : DataW.trod enc Try.prog w base spare held fuel 40 [v] = some x) : ∃ (A : Option Addr) (cap : Nat) (L : List (Int × Int)),v = .slice A L.length cap ∧ L.length ≤ 9223372036854775807 ∧ Sl w w.heap.size 2 A (gnr L):=by
 rcases Go.Deep.open_slice Try.underlying40 h with ⟨hcs,_⟩ | ⟨a,len,cap,m,n,D,Pl,hcs,hb,hl,hm,hmm,hx,hi⟩
 ·simp at hcs
  exact ⟨none,0,[],hcs,by simp,Sl.nil _ _ _ _⟩
 ·simp at hcs
  have hlm : len ≤ m:=by rw [hmm]; split <;> omega
  obtain ⟨es,h1,h2⟩:=list_of (P:=fun i (e : Int × Int) => w.cells? base (a.add (i * 2)) 2 = some [.int .i64 e.1,.int .i64 e.2]) len fun i him => by
   obtain ⟨cs',hc,ht⟩:=hi i (by omega)
   rw [cells39] at hc
   obtain ⟨p,q,rfl⟩:=open_pair ht
   exact ⟨(p,q),hc⟩
  refine ⟨some a,cap,es,by rw [h1]; exact hcs,by unfold maxLen at hm; omega,sl_of (base:=base) (by omega) fun k r hr => ?_⟩
  rw [gnr,List.getElem?_map] at hr
  cases he : es[k]? with
  | none => rw [he] at hr; cases hr
  | some e =>
   rw [he] at hr
   simp only [Option.map_some,Option.some.injEq] at hr
   subst hr
   exact h2 k e he
set_option maxRecDepth 100000 in
theorem open_bin {fuel : Nat} {cs : List Value} {x : DataW H × List MemPlace} (h : DataW.trod enc Try.prog w base spare held fuel 42 cs = some x) : ∃ b : Bn,BinRow w w.heap.size cs b:=by
 obtain ⟨xs,n,_,_,hl,hlen,hf⟩:=DataW.trod_struct Try.underlying42 h
 rw [cells42] at hl
 obtain ⟨c0,c1,c2,c3,rfl⟩:=len4 hl
 ·have e0:=hf 0 _ rfl
  have e1:=hf 1 _ rfl
  have e2:=hf 2 _ rfl
  have e3:=hf 3 _ rfl
  simp only [Sp1,Sp3,Sp2] at e0 e1 e2 e3
  rw [cells40,List.getElem?_eq_getElem (by rw [hlen]; decide)] at e0
  rw [cells3,List.getElem?_eq_getElem (by rw [hlen]; decide)] at e1 e2 e3
  obtain ⟨A,cap,L,hA,_,hS⟩:=open_grams (v:=c0) (by simpa using e0)
  obtain ⟨p,hp,_⟩:=DataW.trod_int Try.underlying3 e1
  obtain ⟨q,hq,_⟩:=DataW.trod_int Try.underlying3 e2
  obtain ⟨r,hr,_⟩:=DataW.trod_int Try.underlying3 e3
  simp at hp hq hr
  exact ⟨⟨p,q,r,L⟩,A,cap,by rw [hA,hp,hq,hr],hS⟩
theorem open_bins {fuel : Nat} {v : Value} {x : DataW H × List MemPlace} (h : DataW.trod enc Try.prog w base spare held fuel 25 [v] = some x) : ∃ (A : Option Addr) (len cap : Nat) (bs : List Bn),v = .slice A len cap ∧ bs.length = len ∧ len ≤ 9223372036854775807 ∧ BinsAt w w.heap.size A bs:=by
 rcases Go.Deep.open_slice Try.underlying25 h with ⟨hcs,_⟩ | ⟨a,len,cap,m,n,D,Pl,hcs,hb,hl,hm,hmm,hx,hi⟩
 ·simp at hcs
  exact ⟨none,0,0,[],hcs,rfl,by omega,⟨[],Sl.nil _ _ _ _,rfl,fun j r b hr _ => by simp at hr⟩⟩
 ·simp at hcs
  have hlm : len ≤ m:=by rw [hmm]; split <;> omega
  obtain ⟨es,h1,h2⟩:=list_of (P:=fun i (e : List Value × Bn) => w.cells? base (a.add (i * 4)) 4 = some e.1 ∧ BinRow w w.heap.size e.1 e.2) len fun i him => by
   obtain ⟨cs',hc,ht⟩:=hi i (by omega)
   rw [cells42] at hc
   obtain ⟨b,hb⟩:=open_bin ht
   exact ⟨(cs',b),hc,hb⟩
  refine ⟨some a,len,cap,es.map (·.2),hcs,by simp [h1],by unfold maxLen at hm; omega,⟨es.map (·.1),sl_of (base:=base) (by omega) fun k r hr => ?_,by simp,fun j r b hr hb => ?_⟩⟩
  ·rw [List.getElem?_map] at hr
   cases he : es[k]? with
   | none => rw [he] at hr; cases hr
   | some e =>
    rw [he] at hr
    simp only [Option.map_some,Option.some.injEq] at hr
    subst hr
    exact (h2 k e he).1
  ·rw [List.getElem?_map] at hr hb
   cases he : es[j]? with
   | none => rw [he] at hr; cases hr
   | some e =>
    rw [he] at hr hb
    simp only [Option.map_some,Option.some.injEq] at hr hb
    subst hr hb
    exact (h2 j e he).2
set_option maxRecDepth 100000 in
theorem open_order {r : Reach} {b0 : Nat} {v : Value} {d : DataW H} {p : List MemPlace} (hv : Value.okWide Try.prog w r b0 27 v) (h : DataW.Trod enc Try.prog w base spare held 27 v d p) : ∃ (LA : Option Addr) (ln lc : Nat) (BA : Option Addr) (bn bc : Nat) (o : Od),v = .agg #[.slice LA ln lc,.int .i64 o.le,.int .i64 o.mo,.slice BA bn bc] ∧ (o.lm.length = ln ∧ ln ≤ 9223372036854775807) ∧ (o.bs.length = bn ∧ bn ≤ 9223372036854775807) ∧ OrdAt w w.heap.size LA BA o:=by
 obtain ⟨cs,rfl,hsz⟩:=okWide_struct Try.underlying27 hv
 obtain ⟨l⟩:=cs
 rw [cells27] at hsz
 obtain ⟨fuel,hf⟩:=h
 obtain ⟨c0,c1,c2,c3,rfl⟩:=len4 (l:=l) hsz
 obtain ⟨xs,n,_,_,hl,hlen,hg⟩:=DataW.trod_struct Try.underlying27 hf
 have e0:=hg 0 _ rfl
 have e1:=hg 1 _ rfl
 have e2:=hg 2 _ rfl
 have e3:=hg 3 _ rfl
 simp only [Sp1,Sp3,Sp2] at e0 e1 e2 e3
 rw [cells22,List.getElem?_eq_getElem (by rw [hlen]; decide)] at e0
 rw [cells3,List.getElem?_eq_getElem (by rw [hlen]; decide)] at e1 e2
 rw [cells25,List.getElem?_eq_getElem (by rw [hlen]; decide)] at e3
 simp only [Value.cells] at e0 e1 e2 e3
 obtain ⟨LA,ln,lc,lm,hL,f1,f2,f3⟩:=open_row (v:=c0) (by simpa using e0)
 obtain ⟨le,hle,_⟩:=DataW.trod_int Try.underlying3 e1
 obtain ⟨mo,hmo,_⟩:=DataW.trod_int Try.underlying3 e2
 obtain ⟨BA,bn,bc,bs,hB,g1,g2,g3⟩:=open_bins (v:=c3) (by simpa using e3)
 simp at hle hmo
 exact ⟨LA,ln,lc,BA,bn,bc,⟨lm,le,mo,bs⟩,by rw [hL,hB,hle,hmo],⟨f1,f2⟩,⟨g1,g2⟩,f3,g3⟩
end
end Go.Proofs.Ytmemcopfeabcgaa.opened
