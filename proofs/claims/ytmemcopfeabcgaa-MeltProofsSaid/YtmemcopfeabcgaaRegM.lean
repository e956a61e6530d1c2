/- Boxes: blocks that are known whole, kept over draws, new blocks, stores and calls. -/
import Derived.Test.YtmemcopfeabcgaaBase
import Derived.Deep.RegionHeld3
import Derived.Deep.DeepCutAuto
import Derived.Deep.DrawnRows
import Derived.Laws.ResultCell
import Derived.OrdersHeld
set_option linter.unusedSimpArgs false
set_option linter.unusedVariables false
namespace Go.Proofs.Ytmemcopfeabcgaa
open Go.RowKit
theorem cellB {W w1 : World} (hb : Below W.heap.size W w1) {b o : Nat} {v : Value} (h : W.cell? ⟨b,o,none⟩ = some v) : w1.cell? ⟨b,o,none⟩ = some v :=
 (hb.cell (World.block_lt_of_cell? W _ h)).trans h

/-- Block g is just the cells cs of type t, none of them frozen. -/
def Bx (w : World) (g : Nat) (t : TypeId) (cs : Array Value) : Prop:=w.heap[g]? = some (.cells cs t (0,0))
section
variable {w w' : World} {g : Nat} {t : TypeId} {cs : Array Value}
theorem Bx.lt (h : Bx w g t cs) : g < w.heap.size:=(Array.getElem?_eq_some_iff.1 h).1
theorem Bx.cell (h : Bx w g t cs) (i : Nat) : w.cell? ⟨g,i,none⟩ = cs[i]?:=cell_of_row w g i cs t (0,0) h
theorem Bx.free (h : Bx w g t cs) : ∀ o,w.frozen? ⟨g,o,none⟩ = false:=fun o => by
 unfold Bx at h
 simp [World.frozen?,h]
theorem Bx.new (w : World) (t : TypeId) (cs : Array Value) : Bx (w.alloc (.cells cs t)) w.heap.size t cs:=heap_alloc_new w _
theorem Bx.alloc (h : Bx w g t cs) (o : Obj) : Bx (w.alloc o) g t cs:=(Below.heap_alloc w o g h.lt).trans h
theorem Bx.drew (h : Bx w g t cs) : Bx w.drew g t cs:=h
theorem Bx.below {B : Nat} (h : Bx w g t cs) (hb : Below B w w') (hg : g < B) : Bx w' g t cs:=(hb.block g hg).trans h
theorem Bx.set_ (h : Bx w g t cs) (i : Nat) (u : Value) : Bx (w.setCell ⟨g,i,none⟩ u) g t (cs.setIfInBounds i u):=by
 unfold Bx at h ⊢
 simp [World.setCell,Array.getElem?_modify,h]
theorem Bx.far (h : Bx w g t cs) {p : Addr} (hp : g ≠ p.block) (u : Value) : Bx (w.setCell p u) g t cs:=(Below.heap_setCell w p u g hp).trans h
theorem Bx.grown {row : Option Nat} (h : Bx w g t cs) (hb : w.grownBy w' row) (hg : some g ≠ row) : Bx w' g t cs:=(hb.block g h.lt hg).trans h
theorem Bx.at (w : World) (t : TypeId) (cs : Array Value) {n : Nat} (hn : n = w.heap.size) : Bx (w.alloc (.cells cs t)) n t cs:=hn ▸ Bx.new w t cs
/-- A box of two cells, in the walk's own words. -/
theorem Bx.two {x y : Value} (h : Bx w g t #[x,y]) : w.cell? ⟨g,0,none⟩ = some x ∧ w.cell? ⟨g,1,none⟩ = some y ∧ (∀ o,w.frozen? ⟨g,o,none⟩ = false) ∧ g < w.heap.size:=⟨h.cell 0,h.cell 1,h.free,h.lt⟩
theorem Bx.one {x : Value} (h : Bx w g t #[x]) : w.cell? ⟨g,0,none⟩ = some x ∧ (∀ o,w.frozen? ⟨g,o,none⟩ = false) ∧ g < w.heap.size:=⟨h.cell 0,h.free,h.lt⟩
theorem Bx.four {x y z u : Value} (h : Bx w g t #[x,y,z,u]) : w.cell? ⟨g,0,none⟩ = some x ∧ w.cell? ⟨g,1,none⟩ = some y ∧ w.cell? ⟨g,2,none⟩ = some z ∧ w.cell? ⟨g,3,none⟩ = some u ∧ (∀ o,w.frozen? ⟨g,o,none⟩ = false) ∧ g < w.heap.size:=⟨h.cell 0,h.cell 1,h.cell 2,h.cell 3,h.free,h.lt⟩
theorem Bx.five {x y z u v : Value} (h : Bx w g t #[x,y,z,u,v]) : w.cell? ⟨g,0,none⟩ = some x ∧ w.cell? ⟨g,1,none⟩ = some y ∧ w.cell? ⟨g,2,none⟩ = some z ∧ w.cell? ⟨g,3,none⟩ = some u ∧ w.cell? ⟨g,4,none⟩ = some v ∧ (∀ o,w.frozen? ⟨g,o,none⟩ = false) ∧ g < w.heap.size:=⟨h.cell 0,h.cell 1,h.cell 2,h.cell 3,h.cell 4,h.free,h.lt⟩
end

/-- The cells of an array of 14 ranges. -/
def zarr (f : Nat → Int × Int) : Array Value:=Array.ofFn (n:=28) fun j => if j.val % 2 = 0 then .int .i64 (f (j.val / 2)).1 else .int .i64 (f (j.val / 2)).2
def upd (f : Nat → Int × Int) (i : Nat) (z : Int × Int) : Nat → Int × Int:=fun j => if j = i then z else f j
attribute [irreducible] zarr
theorem Bx.call {W w1 : World} {g t : Nat} {cs : Array Value} (h : Bx W g t cs) (hb : Below W.heap.size W w1) : Bx w1 g t cs:=h.below hb h.lt
theorem Bx.row {w : World} {g t : Nat} {cs cs' : Array Value} (h : Bx w g t cs) : Bx (w.setRow g cs') g t cs':=by
 unfold Bx at h ⊢
 simp [World.setRow,Array.getElem?_modify,h]
theorem Bx.rowfar {w : World} {g g' t : Nat} {cs cs' : Array Value} (h : Bx w g t cs) (hne : g ≠ g') : Bx (w.setRow g' cs') g t cs:=by
 unfold Bx at h ⊢
 simp only [World.setRow,Array.getElem?_modify]
 rw [if_neg (fun e => hne e.symm)]; exact h
end Go.Proofs.Ytmemcopfeabcgaa
namespace Go.RowKit
theorem Below.setRow {B : Nat} {a w : World} (h : Below B a w) {g : Nat} (hg : B ≤ g) (cs : Array Value) : Below B a (w.setRow g cs) :=
 h.trans ⟨rfl,rfl,rfl,by simp [World.setRow],fun i hi => by simp only [World.setRow,Array.getElem?_modify]; rw [if_neg (by omega)]⟩
end Go.RowKit

/-! Regions that draw their order: what is held (S) has to be shown anew only behind the operations that G names; the others (a last store into a cell that the region reads) come behind all that needs it. -/
namespace Go.Proofs.Ytmemcopfeabcgaa
open Go Go.RowKit
section
variable {P : Program} {ops : Array Oper} {Q : Exit → Act → World → Prop} {md : Region.Mode} {S : World → Prop} {G : Nat → Bool}

/-- Whatever order is picked; S holds behind each operation that G names. -/
def AnyG (P : Program) (md : Region.Mode) (ops : Array Oper) (Q : Exit → Act → World → Prop) (S : World → Prop) (G : Nat → Bool) : Nat → Array Bool → Act → World → Prop
 | 0,listed,a,w => Region.ready md ops listed = [] ∧ Q .normal a w
 | fuel + 1,listed,a,w =>
  (Region.ready md ops listed = [] → Q .normal a w) ∧
  ∀ i ∈ Region.ready md ops listed,wpOp P ops Q i (fun a' w' => (G i = true → S w') ∧ AnyG P md ops Q S G fuel (listed.setIfInBounds i true) a' w') a w

theorem AnyG.any : ∀ (fuel : Nat) (listed : Array Bool) (a : Act) (w : World),AnyG P md ops Q S G fuel listed a w → wpAny P md ops Q fuel listed a w
 | 0,_,_,_,h => h
 | fuel + 1,_,_,_,h => ⟨h.1,fun i hi => wpOp_mono (fun _ _ h' => AnyG.any fuel _ _ _ h'.2) (h.2 i hi)⟩

/-- Every operation that G doesn't name waits for number i, by an edge of its own. -/
def waits (md : Region.Mode) (ops : Array Oper) (G : Nat → Bool) (i : Nat) : Bool :=
 (List.range ops.size).all fun j => G j || j == i || ((ops[j]?).map (·.after.any fun e => Region.binds md e && e.on == i)).getD false

theorem waits_spec {i j : Nat} {listed : Array Bool} (h : waits md ops G i = true) (hun : listed.getD i false = false) (hj : j ∈ Region.ready md ops listed) (hne : j ≠ i) : G j = true:=by
 obtain ⟨_,o,ho,hall⟩:=mem_ready.1 hj
 have hlt : j < ops.size:=(Array.getElem?_eq_some_iff.1 ho).1
 have h1:=List.all_eq_true.1 h j (List.mem_range.2 hlt)
 simp only [ho,Option.map_some,Option.getD_some,Bool.or_eq_true,beq_iff_eq,hne,or_false] at h1
 rcases h1 with h1 | h1
 ·exact h1
 ·obtain ⟨e,he,hb⟩:=Array.any_eq_true'.1 h1
  simp only [Bool.and_eq_true,beq_iff_eq] at hb
  have h2:=hall e he hb.1
  rw [hb.2,hun] at h2
  cases h2

theorem AnyG.first {i : Nat} {oi : Oper} {v : Value} (hi : ops[i]? = some oi) (hsel : Region.noSelect ops = true) (hw : waits md ops G i = true)
  (hQ : ∀ c a w,Q (.panic c) (a.put oi.dst v) w → Q (.panic c) a w) :
  ∀ (fuel : Nat) (listed : Array Bool) (a : Act) (w : World),
   (∀ j oj,ops[j]? = some oj → j ≠ i → listed.getD j true = false → (∀ e ∈ oj.after,Region.binds md e = true → e.on ≠ i) → oi.apart ops oj = true) →
   i ∈ Region.ready md ops listed → YieldsIf P ops S oi v a → S w →
   AnyG P md ops Q S G fuel (listed.setIfInBounds i true) (a.put oi.dst v) w → AnyG P md ops Q S G (fuel + 1) listed a w:=by
 intro fuel
 induction fuel with
 | zero =>
  intro listed a w _ hr hy hS H
  refine ⟨fun h => (by rw [h] at hr; cases hr),fun j hj => ?_⟩
  rcases Nat.decEq j i with hji | hji
  ·have hl:=ready_mono hj hji
   rw [H.1] at hl
   cases hl
  ·subst hji
   exact hy.wpOp hi hS ⟨fun _ => hS,H⟩
 | succ fuel ih =>
  intro listed a w hfree hr hy hS H
  refine ⟨fun h => (by rw [h] at hr; cases hr),fun j hj => ?_⟩
  rcases Nat.decEq j i with hji | hji
  ·obtain ⟨hjun,oj,hoj,hall⟩:=mem_ready.1 hj
   have hiun : listed.getD i false = false:=by
    have h0:=(mem_ready.1 hr).1
    rcases Nat.lt_or_ge i listed.size with h' | h'
    ·simp [h'] at h0 ⊢; exact h0
    ·simp [Array.getElem?_eq_none h']
   have hG:=waits_spec hw hiun hj hji
   have hnot : ∀ e ∈ oj.after,Region.binds md e = true → e.on ≠ i:=fun e he hb heq => by
    have h2:=hall e he hb
    rw [heq,hiun] at h2
    cases h2
   have h2:=wpOp_putIf hoj (hfree j oj hoj hji hjun hnot) (fun cs b => Region.noSelect_spec hsel i oi cs b hi) (fun cs b => Region.noSelect_spec hsel j oj cs b hoj) hQ hy (H.2 j (ready_mono hj hji))
   refine wpOp_mono (fun a' w' h3 => ⟨h3.2.1,ih (listed.setIfInBounds j true) a' w' ?_ (ready_mono hr (Ne.symm hji)) h3.1 (h3.2.1 hG) ?_⟩) h2
   ·intro k ok hk hki hun hno
    refine hfree k ok hk hki ?_ hno
    rcases Nat.decEq j k with hjk | hjk
    ·rw [getD_set_ne true hjk] at hun; exact hun
    ·subst hjk; exact hjun
   ·rw [Array.setIfInBounds_comm _ _ hji]
    exact h3.2.2
  ·subst hji
   exact hy.wpOp hi hS ⟨fun _ => hS,H⟩

/-- Number i is taken first. -/
theorem AnyG.take {i : Nat} {oi : Oper} {v : Value} {fuel : Nat} {listed : Array Bool} {a : Act} {w : World} (hi : ops[i]? = some oi)
  (hs : (Region.noSelect ops && waits md ops G i && Region.free md ops listed i && (Region.ready md ops listed).contains i) = true)
  (hQ : ∀ c a w,Q (.panic c) (a.put oi.dst v) w → Q (.panic c) a w) (hg : oi.guard = none) (hy : ∀ w,S w → (execOp a.eval oi).run P w = .ok (.value v) w) (hS : S w)
  (h : AnyG P md ops Q S G fuel (listed.setIfInBounds i true) (a.put oi.dst v) w) : AnyG P md ops Q S G (fuel + 1) listed a w:=by
 simp only [Bool.and_eq_true] at hs
 obtain ⟨⟨⟨h1,h2⟩,h3⟩,h4⟩:=hs
 exact AnyG.first hi h1 h2 hQ fuel listed a w (Region.free_spec hi h3) (by simpa using h4) (.inl ⟨by simp [Region.wanted,hg],hy⟩) hS h

/-- What is owed behind number i. -/
def Onward (P : Program) (md : Region.Mode) (ops : Array Oper) (Q : Exit → Act → World → Prop) (S : World → Prop) (G : Nat → Bool) (fuel i : Nat) (listed : Array Bool) (a : Act) (w : World) : Prop :=
 (G i = true → S w) ∧ AnyG P md ops Q S G fuel (listed.setIfInBounds i true) a w
theorem Onward.on {fuel i : Nat} {listed : Array Bool} {a : Act} {w : World} (hS : S w) (h : S w → AnyG P md ops Q S G fuel (listed.setIfInBounds i true) a w) : Onward P md ops Q S G fuel i listed a w:=⟨fun _ => hS,h hS⟩
theorem Onward.last {fuel i : Nat} {listed : Array Bool} {a : Act} {w : World} (hG : G i = false) (h : AnyG P md ops Q S G fuel (listed.setIfInBounds i true) a w) : Onward P md ops Q S G fuel i listed a w:=⟨fun h0 => absurd (hG.symm.trans h0) (by simp),h⟩

/-- The operations that may come up are carried out, each in turn. -/
theorem AnyG.all {rs : List Nat} {fuel : Nat} {listed : Array Bool} {a : Act} {w : World} (hr : Region.ready md ops listed = rs) (hne : rs ≠ [])
  (h : ∀ i ∈ rs,∃ o,ops[i]? = some o ∧ o.guard = none ∧ o.wp P a w (Onward P md ops Q S G fuel i listed) Q) : AnyG P md ops Q S G (fuel + 1) listed a w:=by
 refine ⟨fun h0 => absurd (hr.symm.trans h0) hne,fun j hj => ?_⟩
 rw [hr] at hj
 obtain ⟨o,ho,hg,hw⟩:=h j hj
 unfold wpOp
 rw [ho]
 show if Region.wanted o (yielded ops a.tmps) = true then _ else _
 rw [if_pos (by simp [Region.wanted,hg])]
 exact .inl hw
/-- The one operation that may come up is carried out. -/
theorem AnyG.one {i : Nat} {o : Oper} {fuel : Nat} {listed : Array Bool} {a : Act} {w : World} (hr : Region.ready md ops listed = [i]) (ho : ops[i]? = some o) (hg : o.guard = none)
  (h : o.wp P a w (Onward P md ops Q S G fuel i listed) Q) : AnyG P md ops Q S G (fuel + 1) listed a w :=
 AnyG.all hr (by simp) fun j hj => by
  obtain rfl : j = i:=by simpa using hj
  exact ⟨o,ho,hg,h⟩

/-- All have come up. -/
theorem AnyG.done {listed : Array Bool} {a : Act} {w : World} (hr : Region.ready md ops listed = []) (h : Q .normal a w) : ∀ fuel,AnyG P md ops Q S G fuel listed a w
 | 0 => ⟨hr,h⟩
 | _ + 1 => ⟨fun _ => h,by rw [hr]; simp⟩

/-- The beginning. -/
theorem AnyG.start {id : Nat} {a : Act} {w : World} (S : World → Prop) (G : Nat → Bool) (hm : P.follows .mixedOrders = true)
  (h : AnyG P .any ops Q S G ops.size (Array.replicate ops.size false) a w.drew) : (Code.region id ops true).wp P Q a w :=
 wp_region_any hm (AnyG.any _ _ _ _ h)

end
end Go.Proofs.Ytmemcopfeabcgaa
