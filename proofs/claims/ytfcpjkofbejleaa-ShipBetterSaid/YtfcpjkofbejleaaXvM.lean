/- Mathematics of layer 7: a hold more, or a larger one. -/
import Derived.Test.YtfcpjkofbejleaaCvaM
import Derived.Test.YtfcpjkofbejleaaCvb
set_option linter.unusedSimpArgs false
set_option linter.unusedVariables false
namespace Go.Proofs.Ytfcpjkofbejleaa
open Go Go.RowKit
/-! A hold more, or a larger one. -/
theorem bestM_some {v : Vg} (ho : v.Ok) {s : List Int} (h : bestM v = some s) : s ∈ allS ((v.hs.length : Int) - 1) v.ls.length ∧ okB v s = true := by
  have hm := best_most (ok := okB v) (wo := woB v) (fun x => by unfold woB; exact wor_nonneg ho x) (allS ((v.hs.length : Int) - 1) v.ls.length)
  rw [← bestM_eq, h] at hm
  obtain ⟨A, B, e, h1, _⟩ := hm
  exact ⟨by rw [e]; simp, h1⟩
theorem allS_inH {v : Vg} (ho : v.Ok) {s : List Int} (h : s ∈ allS ((v.hs.length : Int) - 1) v.ls.length) : s.length = v.ls.length ∧ InH v.hs.length s := by
  have := (allS_mem (last := (v.hs.length : Int) - 1) (by have := ho.h1; omega) v.ls.length s).1 h
  exact ⟨this.1, fun x hx => by have := this.2 x hx; omega⟩
end Go.Proofs.Ytfcpjkofbejleaa

/-! Copies of voyages that are changed while a feed turns. -/
namespace Go.Proofs.Ytfcpjkofbejleaa
open Go Go.RowKit
/-- A voyage of one's own: its box q, its rows behind V; the feed g turns. -/
structure XV (g : Nat) (V : World) (q : Nat) (li un tr le : Int) (hs : List Hd) (ss : List Si) (ls : List Cg) (hv sv lv : Value) (rs : List (List Value)) (wr : World) : Prop where
  k : Bx wr q 26 #[.int .i64 li, .int .i64 un, .int .i64 tr, hv, .int .i64 le, sv, lv]
  hq : V.heap.size ≤ q
  hqg : q ≠ g
  oh : wr.ownsRow V.heap.size 85 3 hv hs.length (hs.map hdr).flatten
  os : wr.ownsRow V.heap.size 73 3 sv ss.length rs.flatten
  so : SisOwn wr V.heap.size rs ss
  ap : Apt2 rs
  ol : wr.ownsRow V.heap.size 70 3 lv ls.length (ls.map cgr).flatten
  ft : FT g V wr
section
variable {g : Nat} {V wr x : World} {q : Nat} {li un tr le : Int} {hs : List Hd} {ss : List Si} {ls : List Cg} {hv sv lv : Value} {rs : List (List Value)}
theorem XV.of (h : CV V q li un tr le hs ss ls hv sv lv rs wr) (hf : Fd g V) : XV g V q li un tr le hs ss ls hv sv lv rs wr :=
  ⟨h.k, h.hq, by have := hf.lt; have := h.hq; omega, h.oh, h.os, h.so, h.ap, h.ol, (FT.self hf).bel h.hb⟩
theorem XV.go (h : XV g V q li un tr le hs ss ls hv sv lv rs wr) (k : FT g wr x) : XV g V q li un tr le hs ss ls hv sv lv rs x :=
  ⟨k.bx h.k h.hqg, h.hq, h.hqg, k.row h.ft.2 h.oh (by decide), k.row h.ft.2 h.os (by decide), h.so.ft h.ft.2 k.1, h.ap, k.row h.ft.2 h.ol (by decide), ⟨grownF_trans h.ft.1 k.1, k.2⟩⟩
theorem XV.voy (h : XV g V q li un tr le hs ss ls hv sv lv rs wr) {HA SA LA : Option Addr} {hn hc sn sc ln lc : Nat} (e1 : hv = .slice HA hn hc) (e2 : sv = .slice SA sn sc) (e3 : lv = .slice LA ln lc) (h1 : hs.length = hn) (h2 : ss.length = sn) (h3 : ls.length = ln) :
    VoyAt wr wr.heap.size ⟨li, un, tr, le, hs, ss, ls⟩ ⟨HA, hn, hc, SA, sn, sc, LA, ln, lc⟩ := by
  subst e1 e2 e3 h1 h2 h3
  exact ⟨rfl, rfl, rfl, own_rows h.oh (hdr_three _) (by simp), h.so.at_ h.os rfl, own_rows h.ol (cgr_three _) (by simp)⟩
/-- A store into the holds. -/
theorem XV.put (h : XV g V q li un tr le hs ss ls hv sv lv rs wr) {hs' : List Hd} (k : wr.grownBy x hv.ownBlock) (o : x.ownsRow V.heap.size 85 3 hv hs'.length (hs'.map hdr).flatten) : XV g V q li un tr le hs' ss ls hv sv lv rs x :=
  ⟨h.k.grown k (own_bx h.oh h.k (by decide)), h.hq, h.hqg, o, h.os.kept k (own_ne h.os h.oh (by decide)), h.so.own h.oh k (by decide), h.ap, h.ol.kept k (own_ne h.ol h.oh (by decide)), h.ft.own h.oh k (Nat.le_refl _) (by decide)⟩
theorem XV.hold (h : XV g V q li un tr le hs ss ls hv sv lv rs wr) {z : Hd} {v' : Value} (k : wr.grownBy x hv.ownBlock) (o : x.ownsRow V.heap.size 85 3 v' (hs.length + 1) ((hs.map hdr).flatten ++ hdr z)) : XV g V q li un tr le (hs ++ [z]) ss ls v' sv lv rs (x.setCell ⟨q, 3, none⟩ v') := by
  have kq := h.k.grown k (own_bx h.oh h.k (by decide))
  have os' := h.os.kept k (own_ne h.os h.oh (by decide))
  have ol' := h.ol.kept k (own_ne h.ol h.oh (by decide))
  have ft' : FT g V x := h.ft.own h.oh k (Nat.le_refl _) (by decide)
  refine ⟨?_, h.hq, h.hqg, ?_, own_set os' (own_bx os' kq (by decide)) _, (h.so.own h.oh k (by decide)).set_ kq (by decide) 3 v', h.ap, own_set ol' (own_bx ol' kq (by decide)) _, ft'.set_ h.hq (Ne.symm h.hqg) _ _⟩
  · have := kq.set_ 3 v'; simpa using this
  · rw [List.length_append, hdr_snoc]
    exact own_set o (own_bx o kq (by decide)) v'
end
theorem hold_cells {w : World} {B q n c : Nat} {hs : List Hd} (h : w.ownsRow B 85 3 (.slice (some ⟨q, 0, none⟩) n c) hs.length (hs.map hdr).flatten) {i : Nat} {z : Hd} (hz : hs[i]? = some z) :
    w.cell? ⟨q, i * 3, none⟩ = some (.int .i64 z.rm) ∧ w.cell? ⟨q, i * 3 + 1, none⟩ = some (.int .i64 z.bw) ∧ w.cell? ⟨q, i * 3 + 2, none⟩ = some (.int .i64 z.st) ∧ ∀ o, w.frozen? ⟨q, o, none⟩ = false := by
  obtain ⟨A, c2, e, hsl⟩ := own_sl h (hdr_three _) (by simp)
  have e2 := e
  simp only [Value.slice.injEq] at e2
  obtain ⟨rfl, rfl, rfl⟩ := e2
  have hi := (List.getElem?_eq_some_iff.1 hz).1
  obtain ⟨ad, e1, _, c0, c1, c2'⟩ := hd_at hsl hi
  rw [List.getElem?_eq_getElem hi, Option.some.injEq] at hz
  rw [hz] at c0 c1 c2'
  simp only [Option.some.injEq] at e1
  subst e1
  have e : (⟨q, 0, none⟩ : Addr).add (i * 3) = ⟨q, i * 3, none⟩ := by unfold Addr.add; split <;> simp_all
  rw [e] at c0 c1 c2'
  exact ⟨c0, c1, c2', own_free h⟩
/-- A store into the field j of hold i. -/
theorem hold_store {w : World} {B q n c : Nat} {hs : List Hd} (h : w.ownsRow B 85 3 (.slice (some ⟨q, 0, none⟩) n c) hs.length (hs.map hdr).flatten) (hn : hs.length = n) {i j : Nat} {z z' : Hd} {u : Value} (hz : hs[i]? = some z) (hj : j < 3) (hu : (hdr z).set j u = hdr z') :
    (w.setCell ⟨q, i * 3 + j, none⟩ u).ownsRow B 85 3 (.slice (some ⟨q, 0, none⟩) n c) (hs.set i z').length ((hs.set i z').map hdr).flatten := by
  have hi := (List.getElem?_eq_some_iff.1 hz).1
  subst hn
  have o := own_store h (i * 3 + j) u (by omega)
  have f := flatten_set (s := 3) (hs.map hdr) (hdr_three _) i j (hdr z) u (by rw [List.getElem?_map, hz]; rfl) hj
  rw [f, hu] at o
  rw [List.length_set, List.map_set]
  exact o
end Go.Proofs.Ytfcpjkofbejleaa
