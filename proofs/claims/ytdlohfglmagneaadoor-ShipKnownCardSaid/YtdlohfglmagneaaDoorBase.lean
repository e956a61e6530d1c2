/- Words for memory of this seat: cells that read as a list, slices that read as rows, kept below a block. -/
import Derived.Test.YtdlohfglmagneaaDoorRows
import Derived.WalkKit
import Derived.WalkSpells
import Derived.WalkLawsBesides
import Derived.Lib.Hide
set_option linter.unusedSimpArgs false
set_option linter.unusedVariables false
namespace Go.Proofs.YtdlohfglmagneaaDoor
open Go.RowKit

theorem ret_int {k : IntKind} {a b : Int} (h : a = b) : Ending.returned (.int k a) = .returned (.int k b) := by rw [h]
theorem ret_bool {a b : Bool} (h : a = b) : Ending.returned (.bool a) = .returned (.bool b) := by rw [h]

theorem add_block (a : Addr) (n : Nat) : (a.add n).block = a.block := by unfold Addr.add; split <;> rfl
theorem add_add (a : Addr) (i j : Nat) : (a.add i).add j = a.add (i + j) := by
  unfold Addr.add
  by_cases hi : i = 0 <;> by_cases hj : j = 0 <;> simp [hi, hj, Nat.add_assoc]

/-- The cells from p on hold r. -/
def CellsAt (w : World) (p : Addr) (r : List Value) : Prop := ∀ j u, r[j]? = some u → w.cell? (p.add j) = some u
section
variable {w w' : World} {p : Addr} {r : List Value} {B s : Nat} {A : Option Addr} {xs : List (List Value)}
theorem CellsAt.head {u : Value} (h : CellsAt w p r) (hr : r[0]? = some u) : w.cell? p = some u := by simpa [Addr.add] using h 0 u hr
theorem CellsAt.next {u : Value} (h : CellsAt w p r) (j : Nat) (hr : r[j + 1]? = some u) : w.cell? ⟨p.block, p.off + (j + 1), none⟩ = some u := by simpa [Addr.add] using h (j + 1) u hr
theorem CellsAt.below (h : CellsAt w p r) (hb : Below B w w') (hp : p.block < B) : CellsAt w' p r := fun j u hu => (hb.cell (by rw [add_block]; exact hp)).trans (h j u hu)
theorem CellsAt.alloc (h : CellsAt w p r) (o : Obj) (hp : p.block < w.heap.size) : CellsAt (w.alloc o) p r := fun j u hu => (World.cell?_alloc_lt _ _ _ (by rw [add_block]; exact hp)).trans (h j u hu)

/-- The slice at A holds the rows xs, of s cells each, and lies below block B. -/
def Sl (w : World) (B s : Nat) (A : Option Addr) (xs : List (List Value)) : Prop :=
  ∀ k r, xs[k]? = some r → ∃ ad, A = some ad ∧ ad.block < B ∧ CellsAt w (ad.add (k * s)) r
theorem Sl.at_ {k : Nat} (h : Sl w B s A xs) (hk : k < xs.length) : ∃ ad, A = some ad ∧ ad.block < B ∧ CellsAt w (ad.add (k * s)) xs[k] := h k _ (List.getElem?_eq_getElem hk)
theorem Sl.below (h : Sl w B s A xs) (hb : Below B w w') : Sl w' B s A xs := fun k r hr => by
  obtain ⟨ad, h1, h2, h3⟩ := h k r hr
  exact ⟨ad, h1, h2, h3.below hb (by rw [add_block]; exact h2)⟩
theorem Sl.more {B' : Nat} (h : Sl w B s A xs) (hB : B ≤ B') : Sl w B' s A xs := fun k r hr => by
  obtain ⟨ad, h1, h2, h3⟩ := h k r hr
  exact ⟨ad, h1, by omega, h3⟩
theorem Sl.alloc (h : Sl w B s A xs) (hB : B ≤ w.heap.size) (o : Obj) : Sl (w.alloc o) B s A xs := h.below ((Below.refl _ _).alloc hB o)
theorem Sl.nil (w : World) (B s : Nat) (A : Option Addr) : Sl w B s A [] := fun k r hr => by simp at hr
end

/-! Events and logs as data. -/
structure Ev where
  (kd sh ld c0 c1 : Int)
def Ev.cells (e : Ev) : List Value := [.int .i64 e.kd, .int .i64 e.sh, .int .i64 e.ld, .int .i64 e.c0, .int .i64 e.c1]
def EvsAt (w : World) (B : Nat) (A : Option Addr) (es : List Ev) : Prop := Sl w B 5 A (es.map Ev.cells)
/-- The five cells of an event in the walk's spelling. -/
theorem EvsAt.at_ {w : World} {B k : Nat} {A : Option Addr} {es : List Ev} (h : EvsAt w B A es) (hk : k < es.length) : ∃ ad, A = some ad ∧ ad.block < B ∧
    w.cell? (ad.add (k * 5)) = some (.int .i64 es[k].kd) ∧ w.cell? ⟨(ad.add (k * 5)).block, (ad.add (k * 5)).off + 1, none⟩ = some (.int .i64 es[k].sh) ∧
    w.cell? ⟨(ad.add (k * 5)).block, (ad.add (k * 5)).off + 2, none⟩ = some (.int .i64 es[k].ld) ∧ w.cell? ⟨(ad.add (k * 5)).block, (ad.add (k * 5)).off + 3, none⟩ = some (.int .i64 es[k].c0) ∧
    w.cell? ⟨(ad.add (k * 5)).block, (ad.add (k * 5)).off + 4, none⟩ = some (.int .i64 es[k].c1) := by
  obtain ⟨ad, h1, h2, h3⟩ := Sl.at_ h (k := k) (by simpa using hk)
  simp only [List.getElem_map, Ev.cells] at h3
  exact ⟨ad, h1, h2, h3.head rfl, h3.next 0 rfl, h3.next 1 rfl, h3.next 2 rfl, h3.next 3 rfl⟩
theorem EvsAt.below {w w' : World} {B : Nat} {A : Option Addr} {es : List Ev} (h : EvsAt w B A es) (hb : Below B w w') : EvsAt w' B A es := Sl.below h hb
theorem EvsAt.more {w : World} {B B' : Nat} {A : Option Addr} {es : List Ev} (h : EvsAt w B A es) (hb : B ≤ B') : EvsAt w B' A es := Sl.more h hb
theorem EvsAt.alloc {w : World} {B : Nat} {A : Option Addr} {es : List Ev} (h : EvsAt w B A es) (hb : B ≤ w.heap.size) (o : Obj) : EvsAt (w.alloc o) B A es := Sl.alloc h hb o

/-! The errors of logs. -/
def ckR (a b lo hi : Int) : Int := if a < lo ∨ hi < a ∨ b < lo ∨ hi < b then 1 else if b < a then 5 else 0
end Go.Proofs.YtdlohfglmagneaaDoor
