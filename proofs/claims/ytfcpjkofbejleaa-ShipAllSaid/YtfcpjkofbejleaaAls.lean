/- ShipAll: boxes and rows of the loop over all truths. -/
import Derived.Test.YtfcpjkofbejleaaAlA
set_option linter.unusedSimpArgs false
set_option linter.unusedVariables false
namespace Go.Proofs.Ytfcpjkofbejleaa
open Go Go.RowKit
theorem own_low {x : World} {B e s n q o : Nat} {v u : Value} {xs : List Value} (h : x.ownsRow B e s v n xs) (hq : q < B) : (x.setCell ⟨q, o, none⟩ u).ownsRow B e s v n xs :=
  own_set h (fun e => by have := (h.lt q e.symm).1; omega) u
/-- The boxes are set. -/
theorem AI.sets {W x : World} {b : Nat} {p q y : Int × Int} {due : List (Int × Int)} {DA : Option Addr} {nd dc : Nat} (h : AI W b p q y due DA nd dc x) (hW : W.heap.size ≤ b) (p1 p2 q1 q2 y1 y2 : Int) :
    AI W b (p1, p2) (q1, q2) (y1, y2) due DA nd dc ((((((x.setCell ⟨b, 0, none⟩ (.int .i64 p1)).setCell ⟨b, 1, none⟩ (.int .i64 p2)).setCell ⟨b + 1, 0, none⟩ (.int .i64 q1)).setCell ⟨b + 1, 1, none⟩ (.int .i64 q2)).setCell ⟨b + 1 + 1, 0, none⟩ (.int .i64 y1)).setCell ⟨b + 1 + 1, 1, none⟩ (.int .i64 y2)) := by
  have ky : Bx x (b + 1 + 1) 41 #[.int .i64 y.1, .int .i64 y.2] := h.ky
  have kp := (((((h.kp.set_ 0 (.int .i64 p1)).set_ 1 (.int .i64 p2)).far (p := ⟨b + 1, 0, none⟩) (by simp) (.int .i64 q1)).far (p := ⟨b + 1, 1, none⟩) (by simp) (.int .i64 q2)).far (p := ⟨b + 1 + 1, 0, none⟩) (by simp; omega) (.int .i64 y1)).far (p := ⟨b + 1 + 1, 1, none⟩) (by simp; omega) (.int .i64 y2)
  have kq := (((((h.kq.far (p := ⟨b, 0, none⟩) (by simp) (.int .i64 p1)).far (p := ⟨b, 1, none⟩) (by simp) (.int .i64 p2)).set_ 0 (.int .i64 q1)).set_ 1 (.int .i64 q2)).far (p := ⟨b + 1 + 1, 0, none⟩) (by simp) (.int .i64 y1)).far (p := ⟨b + 1 + 1, 1, none⟩) (by simp) (.int .i64 y2)
  have ky2 := (((((ky.far (p := ⟨b, 0, none⟩) (by simp; omega) (.int .i64 p1)).far (p := ⟨b, 1, none⟩) (by simp; omega) (.int .i64 p2)).far (p := ⟨b + 1, 0, none⟩) (by simp) (.int .i64 q1)).far (p := ⟨b + 1, 1, none⟩) (by simp) (.int .i64 q2)).set_ 0 (.int .i64 y1)).set_ 1 (.int .i64 y2)
  have od := own_low (o := 1) (u := .int .i64 y2) (own_low (o := 0) (u := .int .i64 y1) (own_low (o := 1) (u := .int .i64 q2) (own_low (o := 0) (u := .int .i64 q1) (own_low (o := 1) (u := .int .i64 p2) (own_low (o := 0) (u := .int .i64 p1) h.od (q := b) (by omega)) (q := b) (by omega)) (q := b + 1) (by omega)) (q := b + 1) (by omega)) (q := b + 1 + 1) (by omega)) (q := b + 1 + 1) (by omega)
  simp only [List.setIfInBounds_toArray, List.set_cons_zero, List.set_cons_succ] at kp kq ky2
  exact ⟨(((((h.bel.setCell hW _).setCell hW _).setCell (by dsimp only; omega) _).setCell (by dsimp only; omega) _).setCell (by dsimp only; omega) _).setCell (by dsimp only; omega) _, kp, kq, ky2, od⟩
/-- A row of one's own besides. -/
theorem AI.setsRow {W x : World} {b : Nat} {p q y : Int × Int} {due : List (Int × Int)} {DA : Option Addr} {nd dc : Nat} (h : AI W b p q y due DA nd dc x) {B n : Nat} {v : Value} {xs : List Value} (o : x.ownsRow B 3 1 v n xs) (p1 p2 q1 q2 y1 y2 : Int) :
    ((((((x.setCell ⟨b, 0, none⟩ (.int .i64 p1)).setCell ⟨b, 1, none⟩ (.int .i64 p2)).setCell ⟨b + 1, 0, none⟩ (.int .i64 q1)).setCell ⟨b + 1, 1, none⟩ (.int .i64 q2)).setCell ⟨b + 1 + 1, 0, none⟩ (.int .i64 y1)).setCell ⟨b + 1 + 1, 1, none⟩ (.int .i64 y2)).ownsRow B 3 1 v n xs := by
  have ky : Bx x (b + 1 + 1) 41 #[.int .i64 y.1, .int .i64 y.2] := h.ky
  have n0 := own_bx o h.kp (by decide)
  have n1 := own_bx o h.kq (by decide)
  have n2 := own_bx o ky (by decide)
  exact own_set (own_set (own_set (own_set (own_set (own_set o n0 _) n0 _) n1 _) n1 _) n2 _) n2 _
/-- A number more in the row. -/
theorem AI.app {W x x' : World} {b : Nat} {p q y : Int × Int} {due due' : List (Int × Int)} {DA DA' : Option Addr} {nd dc nd' dc' : Nat} (h : AI W b p q y due DA nd dc x) (hW : W.heap.size ≤ b) (k : x.grownBy x' (Value.slice DA nd dc).ownBlock) (o : x'.ownsRow (b + 3) 41 2 (.slice DA' nd' dc') nd' (gnr due').flatten) : AI W b p q y due' DA' nd' dc' x' := by
  have hne : ∀ r, r < b + 3 → some r ≠ (Value.slice DA nd dc).ownBlock := fun r hr e => by have := (h.od.lt r e.symm).1; omega
  exact ⟨h.bel.grown k h.bel.size (fun i e => by have := (h.od.lt i e).1; omega), h.kp.grown k (hne _ (by omega)), h.kq.grown k (hne _ (by omega)), h.ky.grown k (hne _ (by omega)), o⟩
theorem due_cells {w : World} {B q n c : Nat} {L : List (Int × Int)} (h : w.ownsRow B 41 2 (.slice (some ⟨q, 0, none⟩) n c) n (gnr L).flatten) (hn : L.length = n) {i : Nat} {d : Int × Int} (hz : L[i]? = some d) :
    w.cell? ⟨q, i * 2, none⟩ = some (.int .i64 d.1) ∧ w.cell? ⟨q, i * 2 + 1, none⟩ = some (.int .i64 d.2) ∧ ∀ o, w.frozen? ⟨q, o, none⟩ = false := by
  have hsl := own_gnr h hn
  have hi := (List.getElem?_eq_some_iff.1 hz).1
  obtain ⟨ad, e1, _, c0, c1⟩ := gnr_at hsl hi
  rw [List.getElem?_eq_getElem hi, Option.some.injEq] at hz
  rw [hz] at c0 c1
  simp only [Option.some.injEq] at e1
  subst e1
  have e : (⟨q, 0, none⟩ : Addr).add (i * 2) = ⟨q, i * 2, none⟩ := by unfold Addr.add; split <;> simp_all
  rw [e] at c0 c1
  exact ⟨c0, c1, own_free h⟩
/-- A range of the row is set. -/
theorem due_store {w : World} {B q n c : Nat} {L : List (Int × Int)} (h : w.ownsRow B 41 2 (.slice (some ⟨q, 0, none⟩) n c) n (gnr L).flatten) (hn : L.length = n) {i : Nat} (hi : i < n) (a b : Int) :
    ((w.setCell ⟨q, i * 2, none⟩ (.int .i64 a)).setCell ⟨q, i * 2 + 1, none⟩ (.int .i64 b)).ownsRow B 41 2 (.slice (some ⟨q, 0, none⟩) n c) n (gnr (L.set i (a, b))).flatten := by
  subst hn
  have o1 := own_store h (i * 2) (.int .i64 a) (by omega)
  have o2 := own_store o1 (i * 2 + 1) (.int .i64 b) (by omega)
  have hg : (gnr L)[i]? = some [.int .i64 L[i].1, .int .i64 L[i].2] := by unfold gnr; rw [List.getElem?_map, List.getElem?_eq_getElem hi]; rfl
  have f1 := flatten_set (s := 2) (gnr L) (gnr_two L) i 0 _ (.int .i64 a) hg (by omega)
  rw [Nat.add_zero] at f1
  rw [f1] at o2
  have hg2 : ((gnr L).set i [.int .i64 a, .int .i64 L[i].2])[i]? = some [.int .i64 a, .int .i64 L[i].2] := List.getElem?_set_self (by unfold gnr; simpa using hi)
  have h2 : ∀ r ∈ (gnr L).set i [Value.int .i64 a, .int .i64 L[i].2], r.length = 2 := fun r hr => by
    rcases List.mem_or_eq_of_mem_set hr with hr | rfl
    · exact gnr_two L r hr
    · rfl
  have f2 := flatten_set (s := 2) ((gnr L).set i [.int .i64 a, .int .i64 L[i].2]) h2 i 1 _ (.int .i64 b) hg2 (by omega)
  simp only [List.set_cons_zero] at o2
  rw [f2, List.set_set] at o2
  have e : (gnr L).set i (([Value.int .i64 a, .int .i64 L[i].2] : List Value).set 1 (.int .i64 b)) = gnr (L.set i (a, b)) := by
    unfold gnr
    rw [List.map_set]
    rfl
  rw [e] at o2
  exact o2
end Go.Proofs.Ytfcpjkofbejleaa
