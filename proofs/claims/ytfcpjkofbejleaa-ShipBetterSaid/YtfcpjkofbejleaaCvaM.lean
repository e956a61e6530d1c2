/- ShipTrue. -/
import Derived.Test.YtfcpjkofbejleaaFsM
import Derived.Test.YtfcpjkofbejleaaYe
import Derived.Test.YtfcpjkofbejleaaFoM
import Derived.Test.YtfcpjkofbejleaaMsM
set_option linter.unusedSimpArgs false
set_option linter.unusedVariables false
namespace Go.Proofs.Ytfcpjkofbejleaa
open Go Go.RowKit
theorem Bx.two' {w : World} {g : Nat} {t : TypeId} {a b : Value} (k : Bx w g t #[a, b]) : w.cell? ⟨g, 0, none⟩ = some a ∧ w.cell? ⟨g, 1, none⟩ = some b ∧ (∀ o, w.frozen? ⟨g, o, none⟩ = false) ∧ g < w.heap.size :=
  ⟨k.cell 0, k.cell 1, k.free, k.lt⟩
end Go.Proofs.Ytfcpjkofbejleaa

/-! ShipMost. -/
namespace Go.Proofs.Ytfcpjkofbejleaa
open Go Go.RowKit
theorem wor_nonneg {v : Vg} (ho : v.Ok) (s : List Int) : 0 ≤ worM (abd v.ls s) := by
  unfold worM
  have : ∀ (L : List (Cg × Int)), (∀ p ∈ L, 0 ≤ p.1.wo) → 0 ≤ (L.map fun p => p.1.wo).sum := fun L => by
    induction L with
    | nil => intro _; simp
    | cons p r ih =>
      intro h
      have h1 := h p (by simp)
      have h2 := ih fun q hq => h q (by simp [hq])
      simp only [List.map_cons, List.sum_cons]
      omega
  exact this _ fun p hp => (ho.ls _ (abd_mem hp).1).wo.1
/-- The most worth so far, and where. -/
def MostAt (wo : List Int → Int) (L : List (List Int)) (k : Nat) (r : Option (List Int)) (mo at_ : Int) : Prop :=
  (r = none ∧ mo = -1 ∧ at_ = -1) ∨ ∃ (m : List Int) (j : Nat), r = some m ∧ mo = wo m ∧ at_ = j ∧ j < k ∧ L[j]? = some m
theorem MostAt.pick {ok : List Int → Bool} {wo : List Int → Int} {L : List (List Int)} {k : Nat} {r : Option (List Int)} {mo a : Int} (h : MostAt wo L k r mo a) (x : List Int) : pick ok wo r x = if ok x = true ∧ mo < wo x then some x else r := by
  rcases h with ⟨rfl, rfl, _⟩ | ⟨m, j, rfl, rfl, _⟩ <;> rfl
theorem MostAt.no {ok : List Int → Bool} {wo : List Int → Int} {L : List (List Int)} {k : Nat} {mo a : Int} (h : MostAt wo L k (bst ok wo (L.take k)) mo a) (hk : k < L.length) (hn : ¬ (ok L[k] = true ∧ mo < wo L[k])) : MostAt wo L (k + 1) (bst ok wo (L.take (k + 1))) mo a := by
  rw [List.take_succ_eq_append_getElem hk, best_snoc]
  rw [h.pick, if_neg hn]
  rcases h with h | ⟨m, j, h1, h2, h3, h4, h5⟩
  · exact .inl h
  · exact .inr ⟨m, j, h1, h2, h3, by omega, h5⟩
end Go.Proofs.Ytfcpjkofbejleaa

/-! CopyVoyage 22: a copy in the making. -/
namespace Go.Proofs.Ytfcpjkofbejleaa
open Go Go.RowKit
theorem sl_cells {w : World} {B s : Nat} {A : Option Addr} {xs : List (List Value)} (h : Sl w B s A xs) (hs : 0 < s ∧ ∀ r ∈ xs, r.length = s) : ∀ j u, xs.flatten[j]? = some u → ∃ ad, A = some ad ∧ w.cell? (ad.add j) = some u := by
  intro j u hu
  obtain ⟨k, r, i, rfl, h1, h2⟩ := flat_back hs.1 xs hs.2 j u hu
  obtain ⟨ad, e, _, h3⟩ := h k r h1
  have := h3 i u h2
  rw [add_add] at this
  exact ⟨ad, e, this⟩
theorem flat_lenS {s : Nat} : ∀ (xs : List (List Value)) (_ : ∀ r ∈ xs, r.length = s), xs.flatten.length = xs.length * s
  | [], _ => by simp
  | x :: xs, hs => by
    rw [List.flatten_cons, List.length_append, hs x (by simp), flat_lenS xs fun r hr => hs r (by simp [hr]), List.length_cons, Nat.succ_mul]; omega
theorem one_of {xs : List (List Value)} (h : ∀ r ∈ xs, ∀ u ∈ r, u.oneCell' = true) : ∀ u ∈ xs.flatten, u.oneCell' = true := fun u hu => by
  obtain ⟨r, hr, hu⟩ := List.mem_flatten.1 hu
  exact h r hr u hu
theorem hdr_one (l : List Hd) : ∀ r ∈ l.map hdr, ∀ u ∈ r, u.oneCell' = true := by
  intro r hr u hu
  obtain ⟨y, _, rfl⟩ := List.mem_map.1 hr
  simp [hdr] at hu
  rcases hu with rfl | rfl | rfl <;> rfl
theorem lvr_one (l : List Lv) : ∀ r ∈ l.map lvr, ∀ u ∈ r, u.oneCell' = true := by
  intro r hr u hu
  obtain ⟨y, _, rfl⟩ := List.mem_map.1 hr
  simp [lvr] at hu
  rcases hu with rfl | rfl | rfl <;> rfl
theorem cgr_one (l : List Cg) : ∀ r ∈ l.map cgr, ∀ u ∈ r, u.oneCell' = true := by
  intro r hr u hu
  obtain ⟨y, _, rfl⟩ := List.mem_map.1 hr
  simp [cgr] at hu
  rcases hu with rfl | rfl | rfl <;> rfl
/-- No two sills share their levels. -/
def Apt2 (rs : List (List Value)) : Prop := ∀ (i j : Nat) (r s : List Value) (u v : Value), i < j → rs[i]? = some r → rs[j]? = some s → r[2]? = some u → s[2]? = some v → u.ownBlock = none ∨ u.ownBlock ≠ v.ownBlock
theorem Apt2.snoc {w w' : World} {B : Nat} {rs : List (List Value)} {ss : List Si} {A : Option Addr} {n c : Nat} {xs : List Value} (h : Apt2 rs) (hb : SisOwn w B rs ss) (o : w'.ownsRow w.heap.size 75 3 (.slice A n c) n xs) (x y : Value) : Apt2 (rs ++ [[x, y, .slice A n c]]) := by
  intro i j r s u v hij hi hj hu hv
  by_cases hjl : j < rs.length
  · rw [List.getElem?_append_left (by omega)] at hi
    rw [List.getElem?_append_left hjl] at hj
    exact h i j r s u v hij hi hj hu hv
  · have hj2 : j < (rs ++ [[x, y, Value.slice A n c]]).length := (List.getElem?_eq_some_iff.1 hj).1
    obtain rfl : j = rs.length := by simp at hj2; omega
    rw [List.getElem?_append_left hij] at hi
    rw [List.getElem?_concat_length, Option.some.injEq] at hj
    subst hj
    simp only [List.getElem?_cons_succ, List.getElem?_cons_zero, Option.some.injEq] at hv
    subst hv
    have hib : i < ss.length := by rw [← hb.len]; exact hij
    obtain ⟨A2, C2, rfl, o2⟩ := hb.row i r _ hi (List.getElem?_eq_getElem hib)
    simp only [List.getElem?_cons_succ, List.getElem?_cons_zero, Option.some.injEq] at hu
    subst hu
    cases e : (Value.slice A2 ss[i].lv.length C2).ownBlock with
    | none => exact .inl rfl
    | some k =>
      refine .inr fun e2 => ?_
      have h1 := (o2.lt k e).2
      have h2 := (o.lt k e2.symm).1
      omega
/-- A copy of a voyage in the making: its box q behind V. -/
structure CV (V : World) (q : Nat) (li un tr le : Int) (hs : List Hd) (ss : List Si) (ls : List Cg) (hv sv lv : Value) (rs : List (List Value)) (wr : World) : Prop where
  k : Bx wr q 26 #[.int .i64 li, .int .i64 un, .int .i64 tr, hv, .int .i64 le, sv, lv]
  oh : wr.ownsRow V.heap.size 85 3 hv hs.length (hs.map hdr).flatten
  os : wr.ownsRow V.heap.size 73 3 sv ss.length rs.flatten
  so : SisOwn wr V.heap.size rs ss
  ap : Apt2 rs
  ol : wr.ownsRow V.heap.size 70 3 lv ls.length (ls.map cgr).flatten
  hb : Below V.heap.size V wr
  hq : V.heap.size ≤ q
theorem SisOwn.bel {w w' : World} {base : Nat} {rs : List (List Value)} {ss : List Si} (h : SisOwn w base rs ss) (hb : Below w.heap.size w w') : SisOwn w' base rs ss :=
  ⟨h.len, fun j r b hr hb' => by obtain ⟨A, c, e, o⟩ := h.row j r b hr hb'; exact ⟨A, c, e, own_bel o hb⟩⟩
section
variable {V wr x : World} {q : Nat} {li un tr le : Int} {hs : List Hd} {ss : List Si} {ls : List Cg} {hv sv lv : Value} {rs : List (List Value)}
theorem CV.bel (h : CV V q li un tr le hs ss ls hv sv lv rs wr) (k : Below wr.heap.size wr x) : CV V q li un tr le hs ss ls hv sv lv rs x :=
  ⟨h.k.call k, own_bel h.oh k, own_bel h.os k, h.so.bel k, h.ap, own_bel h.ol k, h.hb.trans (k.mono h.hb.size), h.hq⟩
theorem CV.sill (h : CV V q li un tr le hs ss ls hv sv lv rs wr) {A : Option Addr} {n c : Nat} {y : Si} {v' : Value} (k : wr.grownBy x sv.ownBlock) (o : x.ownsRow V.heap.size 73 3 v' (ss.length + 1) (rs.flatten ++ [.int .i64 y.t0, .int .i64 y.t1, .slice A n c])) (hn : y.lv.length = n) (hr : wr.ownsRow V.heap.size 75 3 (.slice A n c) n (y.lv.map lvr).flatten) (ha : Apt2 (rs ++ [[.int .i64 y.t0, .int .i64 y.t1, .slice A n c]])) :
    CV V q li un tr le hs (ss ++ [y]) ls hv v' lv (rs ++ [[.int .i64 y.t0, .int .i64 y.t1, .slice A n c]]) (x.setCell ⟨q, 5, none⟩ v') := by
  have kq := h.k.grown k (own_bx h.os h.k (by decide))
  have oh' := h.oh.kept k (own_ne h.oh h.os (by decide))
  have ol' := h.ol.kept k (own_ne h.ol h.os (by decide))
  subst hn
  refine ⟨?_, own_set oh' (own_bx oh' kq (by decide)) _, ?_, ?_, ha, own_set ol' (own_bx ol' kq (by decide)) _, (h.hb.grown k h.hb.size (fun i e => (h.os.lt i e).1)).setCell h.hq _, h.hq⟩
  · have := kq.set_ 5 v'; simpa using this
  · rw [List.length_append, rows_snoc]
    exact own_set o (own_bx o kq (by decide)) _
  · exact ((h.so.snoc ⟨A, c, rfl, hr⟩).own h.os k (by decide)).set_ kq (by decide) 5 v'
end
end Go.Proofs.Ytfcpjkofbejleaa
