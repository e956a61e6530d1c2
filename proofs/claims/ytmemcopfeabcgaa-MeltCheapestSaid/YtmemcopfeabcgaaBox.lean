/- Boxes: blocks that are known whole, kept over draws, new blocks, stores and calls. -/
import Derived.Test.YtmemcopfeabcgaaBase
import Derived.Deep.RegionHeld3
import Derived.Deep.DeepCutAuto
import Derived.Deep.DrawnRows
import Derived.Laws.ResultCell
set_option linter.unusedSimpArgs false
set_option linter.unusedVariables false
namespace Go.Proofs.Ytmemcopfeabcgaa
open Go.RowKit
theorem cellB {W w1 : World} (hb : Below W.heap.size W w1) {b o : Nat} {v : Value} (h : W.cell? ⟨b, o, none⟩ = some v) : w1.cell? ⟨b, o, none⟩ = some v :=
  (hb.cell (World.block_lt_of_cell? W _ h)).trans h

/-- Block g is just the cells cs of type t, none of them frozen. -/
def Bx (w : World) (g : Nat) (t : TypeId) (cs : Array Value) : Prop := w.heap[g]? = some (.cells cs t (0, 0))
section
variable {w w' : World} {g : Nat} {t : TypeId} {cs : Array Value}
theorem Bx.lt (h : Bx w g t cs) : g < w.heap.size := (Array.getElem?_eq_some_iff.1 h).1
theorem Bx.cell (h : Bx w g t cs) (i : Nat) : w.cell? ⟨g, i, none⟩ = cs[i]? := cell_of_row w g i cs t (0, 0) h
theorem Bx.free (h : Bx w g t cs) : ∀ o, w.frozen? ⟨g, o, none⟩ = false := fun o => by
  unfold Bx at h
  simp [World.frozen?, h]
theorem Bx.new (w : World) (t : TypeId) (cs : Array Value) : Bx (w.alloc (.cells cs t)) w.heap.size t cs := heap_alloc_new w _
theorem Bx.alloc (h : Bx w g t cs) (o : Obj) : Bx (w.alloc o) g t cs := (Below.heap_alloc w o g h.lt).trans h
theorem Bx.drew (h : Bx w g t cs) : Bx w.drew g t cs := h
theorem Bx.below {B : Nat} (h : Bx w g t cs) (hb : Below B w w') (hg : g < B) : Bx w' g t cs := (hb.block g hg).trans h
theorem Bx.set_ (h : Bx w g t cs) (i : Nat) (u : Value) : Bx (w.setCell ⟨g, i, none⟩ u) g t (cs.setIfInBounds i u) := by
  unfold Bx at h ⊢
  simp [World.setCell, Array.getElem?_modify, h]
theorem Bx.far (h : Bx w g t cs) {p : Addr} (hp : g ≠ p.block) (u : Value) : Bx (w.setCell p u) g t cs := (Below.heap_setCell w p u g hp).trans h
theorem Bx.grown {row : Option Nat} (h : Bx w g t cs) (hb : w.grownBy w' row) (hg : some g ≠ row) : Bx w' g t cs := (hb.block g h.lt hg).trans h
theorem Bx.at (w : World) (t : TypeId) (cs : Array Value) {n : Nat} (hn : n = w.heap.size) : Bx (w.alloc (.cells cs t)) n t cs := hn ▸ Bx.new w t cs
/-- A box of two cells, in the walk's own words. -/
theorem Bx.two {x y : Value} (h : Bx w g t #[x, y]) : w.cell? ⟨g, 0, none⟩ = some x ∧ w.cell? ⟨g, 1, none⟩ = some y ∧ (∀ o, w.frozen? ⟨g, o, none⟩ = false) ∧ g < w.heap.size := ⟨h.cell 0, h.cell 1, h.free, h.lt⟩
theorem Bx.one {x : Value} (h : Bx w g t #[x]) : w.cell? ⟨g, 0, none⟩ = some x ∧ (∀ o, w.frozen? ⟨g, o, none⟩ = false) ∧ g < w.heap.size := ⟨h.cell 0, h.free, h.lt⟩
theorem Bx.four {x y z u : Value} (h : Bx w g t #[x, y, z, u]) : w.cell? ⟨g, 0, none⟩ = some x ∧ w.cell? ⟨g, 1, none⟩ = some y ∧ w.cell? ⟨g, 2, none⟩ = some z ∧ w.cell? ⟨g, 3, none⟩ = some u ∧ (∀ o, w.frozen? ⟨g, o, none⟩ = false) ∧ g < w.heap.size := ⟨h.cell 0, h.cell 1, h.cell 2, h.cell 3, h.free, h.lt⟩
theorem Bx.five {x y z u v : Value} (h : Bx w g t #[x, y, z, u, v]) : w.cell? ⟨g, 0, none⟩ = some x ∧ w.cell? ⟨g, 1, none⟩ = some y ∧ w.cell? ⟨g, 2, none⟩ = some z ∧ w.cell? ⟨g, 3, none⟩ = some u ∧ w.cell? ⟨g, 4, none⟩ = some v ∧ (∀ o, w.frozen? ⟨g, o, none⟩ = false) ∧ g < w.heap.size := ⟨h.cell 0, h.cell 1, h.cell 2, h.cell 3, h.cell 4, h.free, h.lt⟩
end

/-- The cells of an array of 14 ranges. -/
def zarr (f : Nat → Int × Int) : Array Value := Array.ofFn (n := 28) fun j => if j.val % 2 = 0 then .int .i64 (f (j.val / 2)).1 else .int .i64 (f (j.val / 2)).2
def upd (f : Nat → Int × Int) (i : Nat) (z : Int × Int) : Nat → Int × Int := fun j => if j = i then z else f j
theorem zarr_size (f : Nat → Int × Int) : (zarr f).size = 28 := by simp [zarr]
theorem zarr_fst (f : Nat → Int × Int) {i : Nat} (hi : i < 14) : (zarr f)[i * 2]? = some (.int .i64 (f i).1) := by
  unfold zarr; rw [Array.getElem?_ofFn, dif_pos (by omega)]
  simp [show i * 2 % 2 = 0 by omega, show i * 2 / 2 = i by omega]
theorem zarr_snd (f : Nat → Int × Int) {i : Nat} (hi : i < 14) : (zarr f)[i * 2 + 1]? = some (.int .i64 (f i).2) := by
  unfold zarr; rw [Array.getElem?_ofFn, dif_pos (by omega)]
  simp [show (i * 2 + 1) % 2 = 1 by omega, show (i * 2 + 1) / 2 = i by omega]
theorem zarr_set (f : Nat → Int × Int) {i : Nat} (hi : i < 14) (a b : Int) : ((zarr f).setIfInBounds (i * 2) (.int .i64 a)).setIfInBounds (i * 2 + 1) (.int .i64 b) = zarr (upd f i (a, b)) := by
  apply Array.ext
  · simp [zarr]
  · intro j h1 h2
    have hj : j < 28 := by simpa [zarr] using h2
    rw [Array.getElem_setIfInBounds (by simpa [zarr] using hj)]
    by_cases e1 : i * 2 + 1 = j
    · subst e1
      simp [zarr, upd, show (i * 2 + 1) % 2 = 1 by omega, show (i * 2 + 1) / 2 = i by omega]
    · rw [if_neg e1, Array.getElem_setIfInBounds (by simpa [zarr] using hj)]
      by_cases e2 : i * 2 = j
      · subst e2
        simp [zarr, upd, show i * 2 % 2 = 0 by omega, show i * 2 / 2 = i by omega]
      · rw [if_neg e2]
        simp [zarr, upd, show ¬ j / 2 = i by omega]
theorem zarr_one (f : Nat → Int × Int) : (zarr f).all (·.oneCell') = true := by
  rw [Array.all_eq_true]; intro i hi
  simp only [zarr, Array.getElem_ofFn]
  split <;> rfl
theorem zarr_congr {f g : Nat → Int × Int} (h : ∀ i, i < 14 → f i = g i) : zarr f = zarr g := by
  apply Array.ext
  · simp [zarr]
  · intro j h1 h2
    have hj : j < 28 := by simpa [zarr] using h2
    simp [zarr, h (j / 2) (by omega)]
theorem zarr0 : zarr (fun _ => (0, 0)) = #[.int .i64 0, .int .i64 0, .int .i64 0, .int .i64 0, .int .i64 0, .int .i64 0, .int .i64 0, .int .i64 0, .int .i64 0, .int .i64 0, .int .i64 0, .int .i64 0, .int .i64 0, .int .i64 0, .int .i64 0, .int .i64 0, .int .i64 0, .int .i64 0, .int .i64 0, .int .i64 0, .int .i64 0, .int .i64 0, .int .i64 0, .int .i64 0, .int .i64 0, .int .i64 0, .int .i64 0, .int .i64 0] := by kernel_rfl
attribute [irreducible] zarr
theorem Bx.call {W w1 : World} {g t : Nat} {cs : Array Value} (h : Bx W g t cs) (hb : Below W.heap.size W w1) : Bx w1 g t cs := h.below hb h.lt
theorem Bx.row {w : World} {g t : Nat} {cs cs' : Array Value} (h : Bx w g t cs) : Bx (w.setRow g cs') g t cs' := by
  unfold Bx at h ⊢
  simp [World.setRow, Array.getElem?_modify, h]
theorem results_row_tmp {P : Program} {fn : Func} {p u : Tmp} {ty t : TypeId} {tmps : Array Value} {w : World} {g : Nat} {cs : Array Value} {d : TypeDesc} (h : fn.results = #[.cell p ty, .tmp u]) (hp : tmps.getD p undef = .pointer (some ⟨g, 0, none⟩)) (hb : Bx w g t cs)
    (hu : P.underlying ty = some d) (hd : (match d with | .struct _ | .array _ _ => true | _ => false) = true) (hi : (P.info? ty).map (·.size) = some cs.size) :
    (results fn tmps).run P w = .ok (.tuple #[.agg cs, tmps.getD u undef]) w := by
  rw [results_cell_tmp h, hp]
  simp [asAddr, run_loadVar_row w g t ty cs (0, 0) d hb hu hd hi]
theorem Bx.rowfar {w : World} {g g' t : Nat} {cs cs' : Array Value} (h : Bx w g t cs) (hne : g ≠ g') : Bx (w.setRow g' cs') g t cs := by
  unfold Bx at h ⊢
  simp only [World.setRow, Array.getElem?_modify]
  rw [if_neg (fun e => hne e.symm)]; exact h
end Go.Proofs.Ytmemcopfeabcgaa
namespace Go.RowKit
theorem Below.setRow {B : Nat} {a w : World} (h : Below B a w) {g : Nat} (hg : B ≤ g) (cs : Array Value) : Below B a (w.setRow g cs) :=
  h.trans ⟨rfl, rfl, rfl, by simp [World.setRow], fun i hi => by simp only [World.setRow, Array.getElem?_modify]; rw [if_neg (by omega)]⟩
end Go.RowKit
