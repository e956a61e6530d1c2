/- Orders in memory. -/
import Derived.Test.YtmemcopfeabcgaaOb
import Derived.Test.YtmemcopfeabcgaaDw
set_option linter.unusedSimpArgs false
set_option linter.unusedVariables false
namespace Go.Proofs.Ytmemcopfeabcgaa
open Go.RowKit
/-- Rows of one number, of two. -/
def inr (L : List Int) : List (List Value) := L.map fun x => [.int .i64 x]
def gnr (L : List (Int × Int)) : List (List Value) := L.map fun p => [.int .i64 p.1, .int .i64 p.2]
theorem inr_at {w : World} {B k : Nat} {A : Option Addr} {L : List Int} (h : Sl w B 1 A (inr L)) (hk : k < L.length) : ∃ ad, A = some ad ∧ ad.block < B ∧ w.cell? (ad.add k) = some (.int .i64 L[k]) := by
  obtain ⟨ad, h1, h2, h3⟩ := h.at_ (k := k) (by simpa [inr] using hk)
  refine ⟨ad, h1, h2, ?_⟩
  simp only [inr, List.getElem_map, Nat.mul_one] at h3
  exact h3.head rfl
theorem gnr_at {w : World} {B k : Nat} {A : Option Addr} {L : List (Int × Int)} (h : Sl w B 2 A (gnr L)) (hk : k < L.length) : ∃ ad, A = some ad ∧ ad.block < B ∧ w.cell? (ad.add (k * 2)) = some (.int .i64 L[k].1) ∧ w.cell? ⟨(ad.add (k * 2)).block, (ad.add (k * 2)).off + 1, none⟩ = some (.int .i64 L[k].2) := by
  obtain ⟨ad, h1, h2, h3⟩ := h.at_ (k := k) (by simpa [gnr] using hk)
  refine ⟨ad, h1, h2, ?_⟩
  simp only [gnr, List.getElem_map] at h3
  exact ⟨h3.head rfl, h3.next 0 rfl⟩
/-- The four cells of a bin. -/
def BinRow (w : World) (B : Nat) (r : List Value) (b : Bn) : Prop :=
  ∃ (A : Option Addr) (c : Nat), r = [.slice A b.gr.length c, .int .i64 b.w, .int .i64 b.c, .int .i64 b.g] ∧ Sl w B 2 A (gnr b.gr)
/-- The row of bins at A. -/
structure BinsAt (w : World) (B : Nat) (A : Option Addr) (bs : List Bn) : Prop where
  rows : ∃ rs : List (List Value), Sl w B 4 A rs ∧ rs.length = bs.length ∧ ∀ (j : Nat) (r : List Value) (b : Bn), rs[j]? = some r → bs[j]? = some b → BinRow w B r b
section
variable {w w' : World} {B B' : Nat} {A : Option Addr} {bs : List Bn}
theorem BinsAt.below (h : BinsAt w B A bs) (hb : Below B w w') : BinsAt w' B A bs := by
  obtain ⟨rs, h1, h2, h3⟩ := h.rows
  refine ⟨rs, h1.below hb, h2, fun j r b hr hb' => ?_⟩
  obtain ⟨A', c, e, h4⟩ := h3 j r b hr hb'
  exact ⟨A', c, e, h4.below hb⟩
theorem BinsAt.more (h : BinsAt w B A bs) (hB : B ≤ B') : BinsAt w B' A bs := by
  obtain ⟨rs, h1, h2, h3⟩ := h.rows
  refine ⟨rs, h1.more hB, h2, fun j r b hr hb' => ?_⟩
  obtain ⟨A', c, e, h4⟩ := h3 j r b hr hb'
  exact ⟨A', c, e, h4.more hB⟩
theorem BinsAt.at_ (h : BinsAt w B A bs) {k : Nat} (hk : k < bs.length) : ∃ (ad : Addr) (G : Option Addr) (c : Nat), A = some ad ∧ ad.block < B ∧
    w.cell? (ad.add (k * 4)) = some (.slice G bs[k].gr.length c) ∧ w.cell? ⟨(ad.add (k * 4)).block, (ad.add (k * 4)).off + 1, none⟩ = some (.int .i64 bs[k].w) ∧
    w.cell? ⟨(ad.add (k * 4)).block, (ad.add (k * 4)).off + 2, none⟩ = some (.int .i64 bs[k].c) ∧ w.cell? ⟨(ad.add (k * 4)).block, (ad.add (k * 4)).off + 3, none⟩ = some (.int .i64 bs[k].g) ∧ Sl w B 2 G (gnr bs[k].gr) := by
  obtain ⟨rs, h1, h2, h3⟩ := h.rows
  have hk' : k < rs.length := by omega
  obtain ⟨ad, e1, e2, e3⟩ := h1.at_ hk'
  obtain ⟨G, c, e4, e5⟩ := h3 k rs[k] bs[k] (List.getElem?_eq_getElem hk') (List.getElem?_eq_getElem hk)
  rw [e4] at e3
  exact ⟨ad, G, c, e1, e2, e3.head rfl, e3.next 0 rfl, e3.next 1 rfl, e3.next 2 rfl, e5⟩
end
/-- An order in memory: its limits at LA, its bins at BA. -/
structure OrdAt (w : World) (B : Nat) (LA BA : Option Addr) (o : Od) : Prop where
  lm : Sl w B 1 LA (inr o.lm)
  bs : BinsAt w B BA o.bs
theorem OrdAt.below {w w' : World} {B : Nat} {LA BA : Option Addr} {o : Od} (h : OrdAt w B LA BA o) (hb : Below B w w') : OrdAt w' B LA BA o := ⟨h.lm.below hb, h.bs.below hb⟩
theorem OrdAt.more {w : World} {B B' : Nat} {LA BA : Option Addr} {o : Od} (h : OrdAt w B LA BA o) (hb : B ≤ B') : OrdAt w B' LA BA o := ⟨h.lm.more hb, h.bs.more hb⟩
theorem OrdAt.call {w w' : World} {LA BA : Option Addr} {o : Od} (h : OrdAt w w.heap.size LA BA o) (hb : Below w.heap.size w w') : OrdAt w' w'.heap.size LA BA o := (h.below hb).more hb.size
theorem Sl.call {w w' : World} {s : Nat} {A : Option Addr} {xs : List (List Value)} (h : Sl w w.heap.size s A xs) (hb : Below w.heap.size w w') : Sl w' w'.heap.size s A xs := (h.below hb).more hb.size
end Go.Proofs.Ytmemcopfeabcgaa
