/- swarfref07.Stowages: all stowages. -/
import Derived.Test.YtfcpjkofbejleaaLi2M
import Derived.Test.YtfcpjkofbejleaaMsM
import Derived.Test.YtfcpjkofbejleaaYe
set_option linter.unusedSimpArgs false
set_option linter.unusedVariables false
namespace Go.Proofs.Ytfcpjkofbejleaa
open Go Go.RowKit
theorem info27b : (Try.prog.info? 27).map (fun i => (i.zero, i.size, i.bytes)) = some (some (.slice none 0 0), 1, 24) := by kernel_rfl
end Go.Proofs.Ytfcpjkofbejleaa

/-! CopyVoyage 22: a copy in the making. -/
namespace Go.Proofs.Ytfcpjkofbejleaa
open Go Go.RowKit
/-- No two sills share their levels. -/
def Apt2 (rs : List (List Value)) : Prop := ∀ (i j : Nat) (r s : List Value) (u v : Value), i < j → rs[i]? = some r → rs[j]? = some s → r[2]? = some u → s[2]? = some v → u.ownBlock = none ∨ u.ownBlock ≠ v.ownBlock
theorem Apt2.snoc {w w' : World} {B : Nat} {rs : List (List Value)} {ss : List Si} {A : Option Addr} {n c : Nat} {xs : List Value} (h : Apt2 rs) (hb : SisOwn w B rs ss) (o : w'.ownsRow w.heap.size 75 3 (.slice A n c) n xs) (x y : Value) : Apt2 (rs ++ [[x, y, .slice A n c]]) := by
  intro i j r s u v hij hi hj hu hv
  by_cases hjl : j < rs.length
  · rw [List.getElem?_append_left (by omega)] at hi
    rw [List.getElem?_append_left hjl] at hj
    exact h i j r s u v hij hi hj hu hv
  · have hj2 : j < (rs ++ [[x, y, Value.slice A n c]]).length := (List.getElem?_eq_some_iff.1 hj).1
    obtain rfl : j = rs.length := by simp at hj2; omega
    rw [List.getElem?_append_left hij] at hi
    rw [List.getElem?_concat_length, Option.some.injEq] at hj
    subst hj
    simp only [List.getElem?_cons_succ, List.getElem?_cons_zero, Option.some.injEq] at hv
    subst hv
    have hib : i < ss.length := by rw [← hb.len]; exact hij
    obtain ⟨A2, C2, rfl, o2⟩ := hb.row i r _ hi (List.getElem?_eq_getElem hib)
    simp only [List.getElem?_cons_succ, List.getElem?_cons_zero, Option.some.injEq] at hu
    subst hu
    cases e : (Value.slice A2 ss[i].lv.length C2).ownBlock with
    | none => exact .inl rfl
    | some k =>
      refine .inr fun e2 => ?_
      have h1 := (o2.lt k e).2
      have h2 := (o.lt k e2.symm).1
      omega
/-- A copy of a voyage in the making: its box q behind V. -/
structure CV (V : World) (q : Nat) (li un tr le : Int) (hs : List Hd) (ss : List Si) (ls : List Cg) (hv sv lv : Value) (rs : List (List Value)) (wr : World) : Prop where
  k : Bx wr q 26 #[.int .i64 li, .int .i64 un, .int .i64 tr, hv, .int .i64 le, sv, lv]
  oh : wr.ownsRow V.heap.size 85 3 hv hs.length (hs.map hdr).flatten
  os : wr.ownsRow V.heap.size 73 3 sv ss.length rs.flatten
  so : SisOwn wr V.heap.size rs ss
  ap : Apt2 rs
  ol : wr.ownsRow V.heap.size 70 3 lv ls.length (ls.map cgr).flatten
  hb : Below V.heap.size V wr
  hq : V.heap.size ≤ q
theorem SisOwn.bel {w w' : World} {base : Nat} {rs : List (List Value)} {ss : List Si} (h : SisOwn w base rs ss) (hb : Below w.heap.size w w') : SisOwn w' base rs ss :=
  ⟨h.len, fun j r b hr hb' => by obtain ⟨A, c, e, o⟩ := h.row j r b hr hb'; exact ⟨A, c, e, own_bel o hb⟩⟩
section
variable {V wr x : World} {q : Nat} {li un tr le : Int} {hs : List Hd} {ss : List Si} {ls : List Cg} {hv sv lv : Value} {rs : List (List Value)}
theorem CV.bel (h : CV V q li un tr le hs ss ls hv sv lv rs wr) (k : Below wr.heap.size wr x) : CV V q li un tr le hs ss ls hv sv lv rs x :=
  ⟨h.k.call k, own_bel h.oh k, own_bel h.os k, h.so.bel k, h.ap, own_bel h.ol k, h.hb.trans (k.mono h.hb.size), h.hq⟩
theorem CV.sill (h : CV V q li un tr le hs ss ls hv sv lv rs wr) {A : Option Addr} {n c : Nat} {y : Si} {v' : Value} (k : wr.grownBy x sv.ownBlock) (o : x.ownsRow V.heap.size 73 3 v' (ss.length + 1) (rs.flatten ++ [.int .i64 y.t0, .int .i64 y.t1, .slice A n c])) (hn : y.lv.length = n) (hr : wr.ownsRow V.heap.size 75 3 (.slice A n c) n (y.lv.map lvr).flatten) (ha : Apt2 (rs ++ [[.int .i64 y.t0, .int .i64 y.t1, .slice A n c]])) :
    CV V q li un tr le hs (ss ++ [y]) ls hv v' lv (rs ++ [[.int .i64 y.t0, .int .i64 y.t1, .slice A n c]]) (x.setCell ⟨q, 5, none⟩ v') := by
  have kq := h.k.grown k (own_bx h.os h.k (by decide))
  have oh' := h.oh.kept k (own_ne h.oh h.os (by decide))
  have ol' := h.ol.kept k (own_ne h.ol h.os (by decide))
  subst hn
  refine ⟨?_, own_set oh' (own_bx oh' kq (by decide)) _, ?_, ?_, ha, own_set ol' (own_bx ol' kq (by decide)) _, (h.hb.grown k h.hb.size (fun i e => (h.os.lt i e).1)).setCell h.hq _, h.hq⟩
  · have := kq.set_ 5 v'; simpa using this
  · rw [List.length_append, rows_snoc]
    exact own_set o (own_bx o kq (by decide)) _
  · exact ((h.so.snoc ⟨A, c, rfl, hr⟩).own h.os k (by decide)).set_ kq (by decide) 5 v'
end
end Go.Proofs.Ytfcpjkofbejleaa
