/- The contracts of bridge.weightsFrom and bridge.weightsBefore for a good log. -/
import Derived.Test.YtgbogdckmfencaaWb
import Derived.Test.YtgbogdckmfencaaFolM
import Derived.Test.YtgbogdckmfencaaReachM
set_option linter.unusedSimpArgs false
set_option linter.unusedVariables false
namespace Go.Proofs.Ytgbogdckmfencaa
open Go.RowKit Go.Shelf
/-- What an event with a zero adds to the net weight, nothing outside the log. -/
def wtc (st : Int) (es : List Ev) (F B : List Int) (e : Nat) (z : Int) : Int × Int:=match es[e]? with
 | some v => if -200 ≤ z ∧ z ≤ 200 then wgt st v F B e z else (0,0)
 | none => (0,0)
/-- The zeros that may follow, none outside the log. -/
def folc (es : List Ev) (f : Nat → Int × Int) (e : Nat) (z : Int) : Int × Int:=match es[e + 1]? with
 | some v => if -200 ≤ z ∧ z ≤ 200 then (max (v.c0 + z) (f (e + 1)).1,min (v.c1 + z) (f (e + 1)).2) else (1,0)
 | none => (1,0)
theorem wgt_bd {st : Int} {e : Ev} (F B : List Int) (k z : Int) (h1 : 1 ≤ st) (h2 : st ≤ 100) (he : EvOk e) (hz1 : -200 ≤ z) (hz2 : z ≤ 200) : Bd 100000 (wgt st e F B k z):=by
 obtain ⟨_,s1,s2,l1,l2,_,_,_,_⟩:=he
 have hr : Bd 100000 (ldRng st e z):=by
  unfold ldRng ldLo ldHi Bd
  refine ⟨?_,?_,?_,?_⟩ <;> (dsimp only; repeat' split) <;> omega
 unfold wgt
 obtain ⟨r1,r2,r3,r4⟩:=hr
 split
 ·unfold Bd; refine ⟨?_,?_,?_,?_⟩ <;> (dsimp only; omega)
 ·split
  ·exact ⟨r1,r2,r3,r4⟩
  ·unfold Bd; simp
theorem wtc_bd {st z0 z1 : Int} {es : List Ev} (h : LogOk st z0 z1 es) (F B : List Int) (e : Nat) (z : Int) : Bd 100000 (wtc st es F B e z):=by
 unfold wtc
 cases hv : es[e]? with
 | none => unfold Bd; simp
 | some v =>
  have hm : v ∈ es:=List.mem_of_getElem? hv
  dsimp only
  split
  ·exact wgt_bd F B e z h.s1 h.s2 (h.ev v hm) (by omega) (by omega)
  ·unfold Bd; simp
theorem folc_ok {st z0 z1 : Int} {es : List Ev} (h : LogOk st z0 z1 es) (f : Nat → Int × Int) (hf : ∀ i,i < es.length → -200 ≤ (f i).1 ∧ (f i).1 ≤ 200 ∧ -200 ≤ (f i).2 ∧ (f i).2 ≤ 200) (e : Nat) (z : Int) :
  -1000 ≤ (folc es f e z).1 ∧ (folc es f e z).1 ≤ 1000 ∧ -1000 ≤ (folc es f e z).2 ∧ (folc es f e z).2 ≤ 1000 ∧ ∀ x,(folc es f e z).1 ≤ x → x ≤ (folc es f e z).2 → -200 ≤ x ∧ x ≤ 200:=by
 unfold folc
 cases hv : es[e + 1]? with
 | none => dsimp only; refine ⟨by omega,by omega,by omega,by omega,fun x h1 h2 => ?_⟩; omega
 | some v =>
  have hlt : e + 1 < es.length:=(List.getElem?_eq_some_iff.1 hv).1
  obtain ⟨q1,q2,q3,q4⟩:=hf _ hlt
  obtain ⟨_,_,_,_,_,_,c1,c2,c3⟩:=h.ev v (List.mem_of_getElem? hv)
  dsimp only
  split
  ·dsimp only
   refine ⟨by omega,by omega,by omega,by omega,fun x h1 h2 => ?_⟩
   omega
  ·dsimp only; refine ⟨by omega,by omega,by omega,by omega,fun x h1 h2 => ?_⟩; omega
section
variable (st z0 z1 : Int) (A : Option Addr) (n c : Nat) (es : List Ev) (F B : List Int) (f : Nat → Int × Int) (gl gm m : Nat) (w : World)
theorem follow_at (hlog : LogOk st z0 z1 es) (hl : es.length = n) (hA : EvsAt w w.heap.size A es) (W : World) (hb : Below w.heap.size w W) (e : Nat) (z : Int) (he : e + 1 < n) (hz1 : -200 ≤ z) (hz2 : z ≤ 200) :
  Calls Try.prog 104 #[.agg #[.int .i64 st,.int .i64 z0,.int .i64 z1,.slice A n c],.agg (zarr f),.int .i64 e,.int .i64 z] W (Iter W (folc es f e z).1 (folc es f e z).2):=by
 have hlt : e + 1 < es.length:=by omega
 have hv:=List.getElem?_eq_getElem hlt
 have h:=follow_any st z0 z1 A n c es f e z W (by have:=hlog.n; omega) he hl ((hA.below hb).more hb.size) hz1 hz2 _ hv (hlog.ev _ (List.getElem_mem hlt))
 unfold folc
 rw [hv]
 dsimp only
 rw [if_pos ⟨hz1,hz2⟩]
 exact h
theorem weigh_at (hlog : LogOk st z0 z1 es) (hl : es.length = n) (hA : EvsAt w w.heap.size A es) (k1 : Bx w gl 26 #[.int .i64 st,.int .i64 z0,.int .i64 z1,.slice A n c]) (k2 : Bx w gm 113 #[.map (some m)]) (hown : w.ownsMap Try.prog 3 (plainElem Try.prog 3) m 8 (wmap F B))
  (W : World) (hb : Below w.heap.size w W) (e : Nat) (z : Int) (he : e < n) (hz1 : -200 ≤ z) (hz2 : z ≤ 200) :
  Calls Try.prog 97 #[.int .i64 e,.int .i64 z,.pointer (some ⟨gl,0,none⟩),.pointer (some ⟨gm,0,none⟩)] W fun r W' => r = .returned (.agg #[.int .i64 (wtc st es F B e z).1,.int .i64 (wtc st es F B e z).2]) ∧ Below W.heap.size W W':=by
 have hlt : e < es.length:=by omega
 have hv:=List.getElem?_eq_getElem hlt
 have h:=weigher1_any st z0 z1 A n c es gl gm m F B e z W hlog.s1 hlog.s2 (by have:=hlog.n; omega) hl ((hA.below hb).more hb.size) _ hv (hlog.ev _ (List.getElem_mem hlt)) hz1 hz2 (k1.call hb) (k2.call hb) (ownsMap_below hown hb hown.lt)
 unfold wtc
 rw [hv]
 dsimp only
 rw [if_pos ⟨hz1,hz2⟩]
 exact h
theorem w92_at (hlog : LogOk st z0 z1 es) (hl : es.length = n) (hn : 1 ≤ n) (hf : ∀ i,i < n → -200 ≤ (f i).1 ∧ (f i).1 ≤ 200 ∧ -200 ≤ (f i).2 ∧ (f i).2 ≤ 200) (hA : EvsAt w w.heap.size A es)
  (k1 : Bx w gl 26 #[.int .i64 st,.int .i64 z0,.int .i64 z1,.slice A n c]) (k2 : Bx w gm 113 #[.map (some m)]) (hown : w.ownsMap Try.prog 3 (plainElem Try.prog 3) m 8 (wmap F B)) (W : World) (hW : Below w.heap.size w W) :
  Calls Try.prog 92 #[.agg #[.int .i64 st,.int .i64 z0,.int .i64 z1,.slice A n c],.agg (zarr f),.func (.func 97) #[] #[.pointer (some ⟨gl,0,none⟩),.pointer (some ⟨gm,0,none⟩)]] W fun e W' => (∃ tb,e = .returned (.slice (some ⟨tb,0,none⟩) n n) ∧ W.heap.size ≤ tb ∧ Bx W' tb 135 (parr (n * 401) (Tab (wtc st es F B) (folc es f) f n n))) ∧ Below W.heap.size W W' :=
 weightsFrom_any _ _ _ A n c gl gm f _ _ W hn (by have:=hlog.n; omega) hf (wtc_bd hlog F B) (folc_ok hlog f (fun i hi => hf i (by omega)))
  (fun W' hW' e z he h1 h2 => follow_at st z0 z1 A n c es f w hlog hl hA W' (hW.trans (hW'.mono hW.size)) e z he h1 h2)
  (fun W' hW' e z he h1 h2 => weigh_at st z0 z1 A n c es F B gl gm m w hlog hl hA k1 k2 hown W' (hW.trans (hW'.mono hW.size)) e z he h1 h2)
theorem w103_at (hlog : LogOk st z0 z1 es) (hl : es.length = n) (hn : 1 ≤ n) (hf : ∀ i,i < n → -200 ≤ (f i).1 ∧ (f i).1 ≤ 200 ∧ -200 ≤ (f i).2 ∧ (f i).2 ≤ 200) (hA : EvsAt w w.heap.size A es)
  (k1 : Bx w gl 26 #[.int .i64 st,.int .i64 z0,.int .i64 z1,.slice A n c]) (k2 : Bx w gm 113 #[.map (some m)]) (hown : w.ownsMap Try.prog 3 (plainElem Try.prog 3) m 8 (wmap F B)) (W : World) (hW : Below w.heap.size w W) :
  Calls Try.prog 103 #[.agg #[.int .i64 st,.int .i64 z0,.int .i64 z1,.slice A n c],.agg (zarr f),.func (.func 97) #[] #[.pointer (some ⟨gl,0,none⟩),.pointer (some ⟨gm,0,none⟩)]] W fun e W' => (∃ tb,e = .returned (.slice (some ⟨tb,0,none⟩) n n) ∧ W.heap.size ≤ tb ∧ Bx W' tb 135 (parr (n * 401) (Tbe (wtc st es F B) (folc es f) f (n - 1)))) ∧ Below W.heap.size W W' :=
 weightsBefore_any _ _ _ A n c gl gm f _ _ W hn (by have:=hlog.n; omega) hf (wtc_bd hlog F B) (folc_ok hlog f (fun i hi => hf i (by omega)))
  (fun W' hW' e z he h1 h2 => follow_at st z0 z1 A n c es f w hlog hl hA W' (hW.trans (hW'.mono hW.size)) e z he h1 h2)
  (fun W' hW' e z he h1 h2 => weigh_at st z0 z1 A n c es F B gl gm m w hlog hl hA k1 k2 hown W' (hW.trans (hW'.mono hW.size)) e z he h1 h2)
end
end Go.Proofs.Ytgbogdckmfencaa
