/- factOf 38: a truth in the making. -/
import Derived.Test.YtfcpjkofbejleaaFp
import Derived.Test.YtfcpjkofbejleaaYdM
import Derived.Test.YtfcpjkofbejleaaYe
import Derived.Test.YtfcpjkofbejleaaCvaM
set_option linter.unusedSimpArgs false
set_option linter.unusedVariables false
namespace Go.Proofs.Ytfcpjkofbejleaa
open Go Go.RowKit
/-- What is known of a truth's lists so far. -/
def TsIn (ls : List Cg) (ts : List Int) : Prop := ∀ (i : Nat) (c : Cg) (n : Int), ls[i]? = some c → ts[i]? = some n → c.t0 ≤ n ∧ n ≤ c.t1
def WsIn (ss : List Si) (ws : List Int) : Prop := ∀ (i : Nat) (s : Si) (n : Int), ss[i]? = some s → ws[i]? = some n → s.t0 ≤ n ∧ n ≤ s.t1
def RsIn (lv : List Lv) (r : List Int) : Prop := ∀ (k : Nat) (l : Lv) (n : Int), lv[k]? = some l → r[k]? = some n → l.d0 ≤ n ∧ n ≤ l.d1
def DsIn (ss : List Si) (ds : List (List Int)) : Prop := ∀ (i : Nat) (s : Si) (r : List Int), ss[i]? = some s → ds[i]? = some r → r.length = s.lv.length ∧ RsIn s.lv r
theorem get_snoc {α : Type} {l : List α} {x y : α} {i : Nat} (h : (l ++ [x])[i]? = some y) : l[i]? = some y ∨ i = l.length ∧ y = x := by
  by_cases hi : i < l.length
  · rw [List.getElem?_append_left hi] at h; exact .inl h
  · have hj2 : i < (l ++ [x]).length := (List.getElem?_eq_some_iff.1 h).1
    obtain rfl : i = l.length := by simp at hj2; omega
    rw [List.getElem?_concat_length, Option.some.injEq] at h
    exact .inr ⟨rfl, h.symm⟩
theorem TsIn.snoc {ls : List Cg} {ts : List Int} (h : TsIn ls ts) {c : Cg} {n : Int} (hc : ls[ts.length]? = some c) (h1 : c.t0 ≤ n) (h2 : n ≤ c.t1) : TsIn ls (ts ++ [n]) := fun i c' m hi hm => by
  rcases get_snoc hm with hm | ⟨rfl, rfl⟩
  · exact h i c' m hi hm
  · rw [hc, Option.some.injEq] at hi; subst hi; exact ⟨h1, h2⟩
theorem WsIn.snoc {ss : List Si} {ws : List Int} (h : WsIn ss ws) {s : Si} {n : Int} (hc : ss[ws.length]? = some s) (h1 : s.t0 ≤ n) (h2 : n ≤ s.t1) : WsIn ss (ws ++ [n]) := fun i c' m hi hm => by
  rcases get_snoc hm with hm | ⟨rfl, rfl⟩
  · exact h i c' m hi hm
  · rw [hc, Option.some.injEq] at hi; subst hi; exact ⟨h1, h2⟩
theorem RsIn.snoc {lv : List Lv} {r : List Int} (h : RsIn lv r) {l : Lv} {n : Int} (hc : lv[r.length]? = some l) (h1 : l.d0 ≤ n) (h2 : n ≤ l.d1) : RsIn lv (r ++ [n]) := fun i c' m hi hm => by
  rcases get_snoc hm with hm | ⟨rfl, rfl⟩
  · exact h i c' m hi hm
  · rw [hc, Option.some.injEq] at hi; subst hi; exact ⟨h1, h2⟩
theorem DsIn.snoc {ss : List Si} {ds : List (List Int)} (h : DsIn ss ds) {s : Si} {r : List Int} (hc : ss[ds.length]? = some s) (h1 : r.length = s.lv.length) (h2 : RsIn s.lv r) : DsIn ss (ds ++ [r]) := fun i c' m hi hm => by
  rcases get_snoc hm with hm | ⟨rfl, rfl⟩
  · exact h i c' m hi hm
  · rw [hc, Option.some.injEq] at hi; subst hi; exact ⟨h1, h2⟩
theorem LsOwn.kept2 {w w' : World} {base : Nat} {vs : List Value} {Ls : List (List Int)} (h : LsOwn w base vs Ls) {row : Option Nat} (k : w.grownBy w' row) (hne : ∀ v ∈ vs, v.ownBlock = none ∨ v.ownBlock ≠ row) : LsOwn w' base vs Ls :=
  ⟨h.len, fun j r b hr hb => by obtain ⟨A, c, e, o⟩ := h.row j r b hr hb; exact ⟨A, c, e, o.kept k (hne _ (List.mem_of_getElem? hr))⟩⟩
/-- A truth in the making: its box b behind V, the ways and depths behind B. -/
structure FI (g b B : Nat) (V : World) (ts ws : List Int) (ds : List (List Int)) (tv wv dv : Value) (vs : List Value) (wr : World) : Prop where
  kb : Bx wr b 62 #[tv, wv, dv]
  hb : V.heap.size ≤ b
  hbg : b ≠ g
  hB : V.heap.size ≤ B
  hBw : B ≤ wr.heap.size
  ot : wr.ownsRow V.heap.size 3 1 tv ts.length (inr ts).flatten
  ow : wr.ownsRow B 3 1 wv ws.length (inr ws).flatten
  od : wr.ownsRow B 27 1 dv ds.length vs
  ld : LsOwn wr B vs ds
  sep : ∀ u ∈ vs, u.ownBlock = none ∨ u.ownBlock ≠ wv.ownBlock
  tlt : ∀ k, tv.ownBlock = some k → k < B
  ft : FT g V wr
section
variable {g b B : Nat} {V wr x : World} {ts ws : List Int} {ds : List (List Int)} {tv wv dv : Value} {vs : List Value}
theorem FI.go (h : FI g b B V ts ws ds tv wv dv vs wr) (k : FT g wr x) : FI g b B V ts ws ds tv wv dv vs x :=
  ⟨k.bx h.kb h.hbg, h.hb, h.hbg, h.hB, Nat.le_trans h.hBw k.size, k.row h.ft.2 h.ot (by decide), k.row h.ft.2 h.ow (by decide), k.row h.ft.2 h.od (by decide), h.ld.ft h.ft.2 k.1, h.sep, h.tlt, ⟨grownF_trans h.ft.1 k.1, k.2⟩⟩
theorem FI.way (h : FI g b B V ts ws ds tv wv dv vs wr) {n : Int} {v' : Value} (k : wr.grownBy x wv.ownBlock) (o : x.ownsRow B 3 1 v' (ws.length + 1) ((inr ws).flatten ++ [.int .i64 n])) (o4 : v'.ownBlock = wv.ownBlock ∨ ∀ k, v'.ownBlock = some k → wr.heap.size ≤ k) :
    FI g b B V ts (ws ++ [n]) ds tv v' dv vs (x.setCell ⟨b, 1, none⟩ v') := by
  have kb' := h.kb.grown k (own_bx h.ow h.kb (by decide))
  have hfd : FT g V x := h.ft.own h.ow k h.hB (by decide)
  have ot' := h.ot.kept k (by
    cases e : tv.ownBlock with
    | none => exact .inl rfl
    | some q =>
      refine .inr fun e2 => ?_
      have h1 := h.tlt q e
      have h2 := (h.ow.lt q e2.symm).1
      omega)
  have od' := h.od.kept k (own_ne h.od h.ow (by decide))
  have ld' := h.ld.kept2 k h.sep
  refine ⟨?_, h.hb, h.hbg, h.hB, by simpa [World.setCell] using Nat.le_trans h.hBw k.size, own_set ot' (own_bx ot' kb' (by decide)) _, ?_, own_set od' (own_bx od' kb' (by decide)) _, ?_, ?_, h.tlt, hfd.set_ h.hb (Ne.symm h.hbg) _ _⟩
  · have := kb'.set_ 1 v'; simpa using this
  · rw [List.length_append, inr_snoc]
    exact own_set o (own_bx o kb' (by decide)) _
  · exact ld'.kept (grown_set x b 1 v') fun v n xs ho => .inr fun e => own_bx ho kb' (by decide) e.symm
  · intro u hu
    rcases o4 with e | e
    · rw [e]; exact h.sep u hu
    · cases e1 : u.ownBlock with
      | none => exact .inl rfl
      | some q =>
        refine .inr fun e2 => ?_
        obtain ⟨j, hj⟩ := List.getElem?_of_mem hu
        have hjl : j < ds.length := by rw [← h.ld.len]; exact (List.getElem?_eq_some_iff.1 hj).1
        obtain ⟨A, c, _, o'⟩ := h.ld.row j u _ hj (List.getElem?_eq_getElem hjl)
        have h1 := (o'.lt q e1).2
        have h2 := e q e2.symm
        omega
theorem FI.row (h : FI g b B V ts ws ds tv wv dv vs wr) {r : List Int} {n c : Nat} {A : Option Addr} {v' : Value} (k : wr.grownBy x dv.ownBlock) (o : x.ownsRow B 27 1 v' (ds.length + 1) (vs ++ [.slice A n c])) (hr : wr.ownsRow B 3 1 (.slice A n c) n (inr r).flatten) (hn : r.length = n) (hs : (Value.slice A n c).ownBlock = none ∨ (Value.slice A n c).ownBlock ≠ wv.ownBlock) :
    FI g b B V ts ws (ds ++ [r]) tv wv v' (vs ++ [.slice A n c]) (x.setCell ⟨b, 2, none⟩ v') := by
  have kb' := h.kb.grown k (own_bx h.od h.kb (by decide))
  have hfd : FT g V x := h.ft.own h.od k h.hB (by decide)
  have ot' := h.ot.kept k (own_ne h.ot h.od (by decide))
  have ow' := h.ow.kept k (own_ne h.ow h.od (by decide))
  have ld' := (h.ld.snoc hn hr).own h.od k (by decide)
  refine ⟨?_, h.hb, h.hbg, h.hB, by simpa [World.setCell] using Nat.le_trans h.hBw k.size, own_set ot' (own_bx ot' kb' (by decide)) _, own_set ow' (own_bx ow' kb' (by decide)) _, ?_, ?_, ?_, h.tlt, hfd.set_ h.hb (Ne.symm h.hbg) _ _⟩
  · have := kb'.set_ 2 v'; simpa using this
  · rw [List.length_append]
    exact own_set o (own_bx o kb' (by decide)) _
  · exact ld'.kept (grown_set x b 2 v') fun v n xs ho => .inr fun e => own_bx ho kb' (by decide) e.symm
  · intro u hu
    rcases List.mem_append.1 hu with hu | hu
    · exact h.sep u hu
    · obtain rfl := List.mem_singleton.1 hu
      exact hs
theorem FI.fin (h : FI g b B V ts ws ds tv wv dv vs wr) {TA WA DA : Option Addr} {tn tc wn wc dn dc : Nat} (e1 : tv = .slice TA tn tc) (e2 : wv = .slice WA wn wc) (e3 : dv = .slice DA dn dc) (h1 : ts.length = tn) (h2 : ws.length = wn) (h3 : ds.length = dn) {q t : Nat} {cs : Array Value} (hq : Bx wr q t cs) (ht : t = 62) (k : wr.grownBy x (some q)) : FacAt x x.heap.size ⟨ts, ws, ds⟩ TA WA DA := by
  subst ht e1 e2 e3
  have ot := h.ot.kept k (.inr fun e => own_bx h.ot hq (by decide) e.symm)
  have ow := h.ow.kept k (.inr fun e => own_bx h.ow hq (by decide) e.symm)
  have od := h.od.kept k (.inr fun e => own_bx h.od hq (by decide) e.symm)
  have ld := h.ld.kept k fun v n xs ho => .inr fun e => own_bx ho hq (by decide) e.symm
  rw [h1] at ot
  rw [h2] at ow
  rw [h3] at od
  exact ⟨own_inr ot h1, own_inr ow h2, ld.at_ od⟩
end
end Go.Proofs.Ytfcpjkofbejleaa

/-! factOf 38. -/
namespace Go.Proofs.Ytfcpjkofbejleaa
open Go Go.RowKit
theorem FT.cell {g : Nat} {V x : World} {a : Addr} {u : Value} (k : FT g V x) (hf : Fd g V) (hc : V.cell? a = some u) (hu : ∀ y, u ≠ .int .u64 y) : x.cell? a = some u := k.1.cell hc (by simpa using fd_cell hf hc hu)
end Go.Proofs.Ytfcpjkofbejleaa

/-! ShipTrue. -/
namespace Go.Proofs.Ytfcpjkofbejleaa
open Go Go.RowKit
theorem Bx.two' {w : World} {g : Nat} {t : TypeId} {a b : Value} (k : Bx w g t #[a, b]) : w.cell? ⟨g, 0, none⟩ = some a ∧ w.cell? ⟨g, 1, none⟩ = some b ∧ (∀ o, w.frozen? ⟨g, o, none⟩ = false) ∧ g < w.heap.size :=
  ⟨k.cell 0, k.cell 1, k.free, k.lt⟩
end Go.Proofs.Ytfcpjkofbejleaa

/-! ShipMost. -/
namespace Go.Proofs.Ytfcpjkofbejleaa
open Go Go.RowKit
/-- The most worth so far, and where. -/
def MostAt (wo : List Int → Int) (L : List (List Int)) (k : Nat) (r : Option (List Int)) (mo at_ : Int) : Prop :=
  (r = none ∧ mo = -1 ∧ at_ = -1) ∨ ∃ (m : List Int) (j : Nat), r = some m ∧ mo = wo m ∧ at_ = j ∧ j < k ∧ L[j]? = some m
theorem MostAt.pick {ok : List Int → Bool} {wo : List Int → Int} {L : List (List Int)} {k : Nat} {r : Option (List Int)} {mo a : Int} (h : MostAt wo L k r mo a) (x : List Int) : pick ok wo r x = if ok x = true ∧ mo < wo x then some x else r := by
  rcases h with ⟨rfl, rfl, _⟩ | ⟨m, j, rfl, rfl, _⟩ <;> rfl
theorem MostAt.no {ok : List Int → Bool} {wo : List Int → Int} {L : List (List Int)} {k : Nat} {mo a : Int} (h : MostAt wo L k (bst ok wo (L.take k)) mo a) (hk : k < L.length) (hn : ¬ (ok L[k] = true ∧ mo < wo L[k])) : MostAt wo L (k + 1) (bst ok wo (L.take (k + 1))) mo a := by
  rw [List.take_succ_eq_append_getElem hk, best_snoc]
  rw [h.pick, if_neg hn]
  rcases h with h | ⟨m, j, h1, h2, h3, h4, h5⟩
  · exact .inl h
  · exact .inr ⟨m, j, h1, h2, h3, by omega, h5⟩
end Go.Proofs.Ytfcpjkofbejleaa

/-! Copies of voyages that are changed while a feed turns. -/
namespace Go.Proofs.Ytfcpjkofbejleaa
open Go Go.RowKit
/-- A voyage of one's own: its box q, its rows behind V; the feed g turns. -/
structure XV (g : Nat) (V : World) (q : Nat) (li un tr le : Int) (hs : List Hd) (ss : List Si) (ls : List Cg) (hv sv lv : Value) (rs : List (List Value)) (wr : World) : Prop where
  k : Bx wr q 26 #[.int .i64 li, .int .i64 un, .int .i64 tr, hv, .int .i64 le, sv, lv]
  hq : V.heap.size ≤ q
  hqg : q ≠ g
  oh : wr.ownsRow V.heap.size 85 3 hv hs.length (hs.map hdr).flatten
  os : wr.ownsRow V.heap.size 73 3 sv ss.length rs.flatten
  so : SisOwn wr V.heap.size rs ss
  ap : Apt2 rs
  ol : wr.ownsRow V.heap.size 70 3 lv ls.length (ls.map cgr).flatten
  ft : FT g V wr
section
variable {g : Nat} {V wr x : World} {q : Nat} {li un tr le : Int} {hs : List Hd} {ss : List Si} {ls : List Cg} {hv sv lv : Value} {rs : List (List Value)}
theorem XV.of (h : CV V q li un tr le hs ss ls hv sv lv rs wr) (hf : Fd g V) : XV g V q li un tr le hs ss ls hv sv lv rs wr :=
  ⟨h.k, h.hq, by have := hf.lt; have := h.hq; omega, h.oh, h.os, h.so, h.ap, h.ol, (FT.self hf).bel h.hb⟩
theorem XV.go (h : XV g V q li un tr le hs ss ls hv sv lv rs wr) (k : FT g wr x) : XV g V q li un tr le hs ss ls hv sv lv rs x :=
  ⟨k.bx h.k h.hqg, h.hq, h.hqg, k.row h.ft.2 h.oh (by decide), k.row h.ft.2 h.os (by decide), h.so.ft h.ft.2 k.1, h.ap, k.row h.ft.2 h.ol (by decide), ⟨grownF_trans h.ft.1 k.1, k.2⟩⟩
theorem XV.voy (h : XV g V q li un tr le hs ss ls hv sv lv rs wr) {HA SA LA : Option Addr} {hn hc sn sc ln lc : Nat} (e1 : hv = .slice HA hn hc) (e2 : sv = .slice SA sn sc) (e3 : lv = .slice LA ln lc) (h1 : hs.length = hn) (h2 : ss.length = sn) (h3 : ls.length = ln) :
    VoyAt wr wr.heap.size ⟨li, un, tr, le, hs, ss, ls⟩ ⟨HA, hn, hc, SA, sn, sc, LA, ln, lc⟩ := by
  subst e1 e2 e3 h1 h2 h3
  exact ⟨rfl, rfl, rfl, own_rows h.oh (hdr_three _) (by simp), h.so.at_ h.os rfl, own_rows h.ol (cgr_three _) (by simp)⟩
/-- A store into the holds. -/
theorem XV.put (h : XV g V q li un tr le hs ss ls hv sv lv rs wr) {hs' : List Hd} (k : wr.grownBy x hv.ownBlock) (o : x.ownsRow V.heap.size 85 3 hv hs'.length (hs'.map hdr).flatten) : XV g V q li un tr le hs' ss ls hv sv lv rs x :=
  ⟨h.k.grown k (own_bx h.oh h.k (by decide)), h.hq, h.hqg, o, h.os.kept k (own_ne h.os h.oh (by decide)), h.so.own h.oh k (by decide), h.ap, h.ol.kept k (own_ne h.ol h.oh (by decide)), h.ft.own h.oh k (Nat.le_refl _) (by decide)⟩
theorem XV.hold (h : XV g V q li un tr le hs ss ls hv sv lv rs wr) {z : Hd} {v' : Value} (k : wr.grownBy x hv.ownBlock) (o : x.ownsRow V.heap.size 85 3 v' (hs.length + 1) ((hs.map hdr).flatten ++ hdr z)) : XV g V q li un tr le (hs ++ [z]) ss ls v' sv lv rs (x.setCell ⟨q, 3, none⟩ v') := by
  have kq := h.k.grown k (own_bx h.oh h.k (by decide))
  have os' := h.os.kept k (own_ne h.os h.oh (by decide))
  have ol' := h.ol.kept k (own_ne h.ol h.oh (by decide))
  have ft' : FT g V x := h.ft.own h.oh k (Nat.le_refl _) (by decide)
  refine ⟨?_, h.hq, h.hqg, ?_, own_set os' (own_bx os' kq (by decide)) _, (h.so.own h.oh k (by decide)).set_ kq (by decide) 3 v', h.ap, own_set ol' (own_bx ol' kq (by decide)) _, ft'.set_ h.hq (Ne.symm h.hqg) _ _⟩
  · have := kq.set_ 3 v'; simpa using this
  · rw [List.length_append, hdr_snoc]
    exact own_set o (own_bx o kq (by decide)) v'
end
end Go.Proofs.Ytfcpjkofbejleaa

/-! Copies of voyages: sills and levels that are changed. -/
namespace Go.Proofs.Ytfcpjkofbejleaa
open Go Go.RowKit
/-- The levels of sill i. -/
def HeadIs2 (rs : List (List Value)) (i : Nat) (v : Value) : Prop := ∃ r, rs[i]? = some r ∧ r[2]? = some v
theorem Apt2.set_ {rs : List (List Value)} (ha : Apt2 rs) {i : Nat} {r r' : List Value} (hr : rs[i]? = some r) (h0 : r'[2]? = r[2]?) : Apt2 (rs.set i r') := by
  have hi : i < rs.length := (List.getElem?_eq_some_iff.1 hr).1
  have key : ∀ (j : Nat) (s : List Value), (rs.set i r')[j]? = some s → ∃ s', rs[j]? = some s' ∧ s[2]? = s'[2]? := fun j s hs => by
    by_cases hj : i = j
    · subst hj
      rw [List.getElem?_set_self hi, Option.some.injEq] at hs
      subst hs
      exact ⟨r, hr, h0⟩
    · rw [List.getElem?_set_ne hj] at hs
      exact ⟨s, hs, rfl⟩
  intro a b s t u v hab h1 h2 hu hv
  obtain ⟨s', e1, e2⟩ := key a s h1
  obtain ⟨t', e3, e4⟩ := key b t h2
  exact ha a b s' t' u v hab e1 e3 (e2 ▸ hu) (e4 ▸ hv)
theorem HeadIs2.set_ {rs : List (List Value)} {i j : Nat} {r r' : List Value} {v : Value} (h : HeadIs2 rs j v) (hr : rs[i]? = some r) (h0 : r'[2]? = r[2]?) : HeadIs2 (rs.set i r') j v := by
  have hi : i < rs.length := (List.getElem?_eq_some_iff.1 hr).1
  obtain ⟨s, e1, e2⟩ := h
  by_cases hj : i = j
  · subst hj
    rw [hr, Option.some.injEq] at e1
    subst e1
    exact ⟨r', List.getElem?_set_self hi, h0.trans e2⟩
  · exact ⟨s, by rw [List.getElem?_set_ne hj]; exact e1, e2⟩
section
variable {g : Nat} {V wr x : World} {q : Nat} {li un tr le : Int} {hs : List Hd} {ss : List Si} {ls : List Cg} {hv sv lv : Value} {rs : List (List Value)}
/-- Sills are changed. -/
theorem XV.putS (h : XV g V q li un tr le hs ss ls hv sv lv rs wr) {ss' : List Si} {rs' : List (List Value)} (k : wr.grownBy x sv.ownBlock) (o : x.ownsRow V.heap.size 73 3 sv ss'.length rs'.flatten) (so : SisOwn x V.heap.size rs' ss') (ap : Apt2 rs') : XV g V q li un tr le hs ss' ls hv sv lv rs' x :=
  ⟨h.k.grown k (own_bx h.os h.k (by decide)), h.hq, h.hqg, h.oh.kept k (own_ne h.oh h.os (by decide)), o, so, ap, h.ol.kept k (own_ne h.ol h.os (by decide)), h.ft.own h.os k (Nat.le_refl _) (by decide)⟩
/-- A number of a sill is set. -/
theorem XV.cell {yq n c : Nat} (h : XV g V q li un tr le hs ss ls hv (.slice (some ⟨yq, 0, none⟩) n c) lv rs wr) (hn : ss.length = n) {i : Nat} {b b' : Si} (hb : ss[i]? = some b) (o : Nat) (ho : o < 2) (z : Int) (hg : b'.lv = b.lv) (hrow : ∀ A C, ([.int .i64 b.t0, .int .i64 b.t1, .slice A b.lv.length C] : List Value).set o (.int .i64 z) = [.int .i64 b'.t0, .int .i64 b'.t1, .slice A b'.lv.length C]) :
    ∃ rs', XV g V q li un tr le hs (ss.set i b') ls hv (.slice (some ⟨yq, 0, none⟩) n c) lv rs' (wr.setCell ⟨yq, i * 3 + o, none⟩ (.int .i64 z)) ∧ ∀ j v, HeadIs2 rs j v → HeadIs2 rs' j v := by
  subst hn
  have hib : i < ss.length := (List.getElem?_eq_some_iff.1 hb).1
  have hir : i < rs.length := by rw [h.so.len]; exact hib
  obtain ⟨A, C, hr, og⟩ := h.so.row i rs[i] b (List.getElem?_eq_getElem hir) hb
  have h0 : (rs[i].set o (.int .i64 z))[2]? = rs[i][2]? := List.getElem?_set_ne (by omega)
  have k : wr.grownBy (wr.setCell ⟨yq, i * 3 + o, none⟩ (.int .i64 z)) (Value.slice (some ⟨yq, 0, none⟩) ss.length c).ownBlock := grown_set _ _ _ _
  refine ⟨rs.set i (rs[i].set o (.int .i64 z)), h.putS k ?_ ⟨by simp [h.so.len], fun j r b2 h1 h2 => ?_⟩ (h.ap.set_ (List.getElem?_eq_getElem hir) h0), fun j v hv => hv.set_ (List.getElem?_eq_getElem hir) h0⟩
  · rw [List.length_set, ← flatten_set rs h.so.three i o rs[i] _ (List.getElem?_eq_getElem hir) (by omega)]
    exact own_store h.os (i * 3 + o) _ (by omega)
  · by_cases hj : j = i
    · subst hj
      rw [List.getElem?_set_self hir] at h1
      rw [List.getElem?_set_self hib] at h2
      simp only [Option.some.injEq] at h1 h2
      subst h1 h2
      refine ⟨A, C, by rw [hr]; exact hrow A C, ?_⟩
      rw [hg]
      exact store_far h.os og (by decide)
    · rw [List.getElem?_set_ne (Ne.symm hj)] at h1 h2
      obtain ⟨A2, C2, e2, o2⟩ := h.so.row j r b2 h1 h2
      exact ⟨A2, C2, e2, store_far h.os o2 (by decide)⟩
/-- What can be read of sill i. -/
theorem XV.at_ {yq n c : Nat} (h : XV g V q li un tr le hs ss ls hv (.slice (some ⟨yq, 0, none⟩) n c) lv rs wr) (hn : ss.length = n) {i : Nat} {b : Si} (hb : ss[i]? = some b) :
    ∃ (G : Option Addr) (gc : Nat), wr.cell? ⟨yq, i * 3, none⟩ = some (.int .i64 b.t0) ∧ wr.cell? ⟨yq, i * 3 + 1, none⟩ = some (.int .i64 b.t1) ∧ wr.cell? ⟨yq, i * 3 + 2, none⟩ = some (.slice G b.lv.length gc) ∧ HeadIs2 rs i (.slice G b.lv.length gc) ∧ wr.ownsRow V.heap.size 75 3 (.slice G b.lv.length gc) b.lv.length (b.lv.map lvr).flatten := by
  subst hn
  have hib : i < ss.length := (List.getElem?_eq_some_iff.1 hb).1
  have hir : i < rs.length := by rw [h.so.len]; exact hib
  obtain ⟨A, C, hr, og⟩ := h.so.row i rs[i] b (List.getElem?_eq_getElem hir) hb
  obtain ⟨A', c', e, hs⟩ := own_sl h.os h.so.three h.so.len
  simp only [Value.slice.injEq, true_and] at e
  obtain ⟨rfl, rfl⟩ := e
  have hcells := hs.cells (by omega) h.so.three
  have cell : ∀ o, o < 3 → wr.cell? ⟨yq, i * 3 + o, none⟩ = rs[i][o]? := fun o ho => by
    have h4 : rs[i].length = 3 := h.so.three _ (List.getElem_mem hir)
    have e1 : rs[i][o]? = some rs[i][o] := List.getElem?_eq_getElem (by omega)
    have e2 := flat_at (s := 3) rs h.so.three i rs[i] (List.getElem?_eq_getElem hir) o _ e1
    have e3 := hcells _ _ e2
    rw [e1, ← e3]
    unfold Addr.add
    split <;> simp_all
  have c0 := cell 0 (by omega)
  have c1 := cell 1 (by omega)
  have c2 := cell 2 (by omega)
  rw [hr] at c0 c1 c2
  exact ⟨A, C, c0, c1, c2, ⟨rs[i], List.getElem?_eq_getElem hir, by rw [hr]; rfl⟩, og⟩
/-- A number of a level is set. -/
theorem XV.dep {gq n C : Nat} (h : XV g V q li un tr le hs ss ls hv sv lv rs wr) {i j : Nat} {b : Si} {l l' : Lv} (hH : HeadIs2 rs i (.slice (some ⟨gq, 0, none⟩) n C)) (hb : ss[i]? = some b) (hl : b.lv[j]? = some l) (o : Nat) (ho : o < 3) (z : Int) (hrow : (lvr l).set o (.int .i64 z) = lvr l') :
    XV g V q li un tr le hs (ss.set i ⟨b.t0, b.t1, b.lv.set j l'⟩) ls hv sv lv rs (wr.setCell ⟨gq, j * 3 + o, none⟩ (.int .i64 z)) := by
  have hib : i < ss.length := (List.getElem?_eq_some_iff.1 hb).1
  have hir : i < rs.length := by rw [h.so.len]; exact hib
  obtain ⟨A, C2, hr, og⟩ := h.so.row i rs[i] b (List.getElem?_eq_getElem hir) hb
  obtain ⟨r, e1, e2⟩ := hH
  rw [List.getElem?_eq_getElem hir, Option.some.injEq] at e1
  subst e1
  rw [hr] at e2
  simp only [List.getElem?_cons_succ, List.getElem?_cons_zero, Option.some.injEq, Value.slice.injEq] at e2
  obtain ⟨rfl, rfl, rfl⟩ := e2
  have hjl : j < b.lv.length := (List.getElem?_eq_some_iff.1 hl).1
  have k : wr.grownBy (wr.setCell ⟨gq, j * 3 + o, none⟩ (.int .i64 z)) (Value.slice (some ⟨gq, 0, none⟩) b.lv.length C2).ownBlock := grown_set _ _ _ _
  have og' := own_store og (j * 3 + o) (.int .i64 z) (by omega)
  rw [flatten_set (b.lv.map lvr) (lvr_three _) j o (lvr l) _ (by rw [List.getElem?_map, hl]; rfl) ho, hrow] at og'
  refine ⟨h.k.grown k (own_bx og h.k (by decide)), h.hq, h.hqg, h.oh.kept k (own_ne h.oh og (by decide)), by rw [List.length_set]; exact h.os.kept k (own_ne h.os og (by decide)), ⟨by simp [h.so.len], fun m r b2 h1 h2 => ?_⟩, h.ap, h.ol.kept k (own_ne h.ol og (by decide)), h.ft.own og k (Nat.le_refl _) (by decide)⟩
  by_cases hm : m = i
  · subst hm
    rw [List.getElem?_eq_getElem hir] at h1
    rw [List.getElem?_set_self hib] at h2
    simp only [Option.some.injEq] at h1 h2
    subst h1 h2
    refine ⟨some ⟨gq, 0, none⟩, C2, by rw [hr]; simp, ?_⟩
    dsimp only
    rw [List.length_set, List.map_set]
    exact og'
  · rw [List.getElem?_set_ne (Ne.symm hm)] at h2
    obtain ⟨A2, C3, e3, o3⟩ := h.so.row m r b2 h1 h2
    refine ⟨A2, C3, e3, o3.kept k ?_⟩
    rcases Nat.lt_or_gt_of_ne hm with hlt | hgt
    · have hsep := h.ap m i r rs[i] (.slice A2 b2.lv.length C3) (.slice (some ⟨gq, 0, none⟩) b.lv.length C2) hlt h1 (List.getElem?_eq_getElem hir) (by rw [e3]; rfl) (by rw [hr]; rfl)
      exact hsep
    · have hsep := h.ap i m rs[i] r (.slice (some ⟨gq, 0, none⟩) b.lv.length C2) (.slice A2 b2.lv.length C3) hgt (List.getElem?_eq_getElem hir) h1 (by rw [hr]; rfl) (by rw [e3]; rfl)
      rcases hsep with e | e
      · simp [Value.ownBlock] at e
      · exact .inr fun e' => e e'.symm
end
end Go.Proofs.Ytfcpjkofbejleaa

/-! Mathematics of layer 7: more water, shorter ways. -/
namespace Go.Proofs.Ytfcpjkofbejleaa
open Go Go.RowKit
/-! More water, shorter ways. -/
/-- A level that is deeper. -/
structure DpL (l l' : Lv) : Prop where
  fr : l'.fr = l.fr
  d0 : l.d0 ≤ l'.d0
  d1 : l.d1 ≤ l'.d1
  d01 : l'.d0 ≤ l'.d1
  up : l'.d1 ≤ l.d1 + 4
/-- A sill with shorter ways, and more water on the levels before k. -/
structure DpP (s s' : Si) (k : Nat) : Prop where
  t0 : 0 ≤ s'.t0 ∧ s'.t0 ≤ s.t0
  t1 : s'.t0 ≤ s'.t1 ∧ s'.t1 ≤ s.t1
  len : s'.lv.length = s.lv.length
  lv : ∀ (j : Nat) (l : Lv), s.lv[j]? = some l → ∃ l', s'.lv[j]? = some l' ∧ (j < k → DpL l l') ∧ (k ≤ j → l' = l)
structure DpSs (ss ss' : List Si) (i : Nat) : Prop where
  len : ss'.length = ss.length
  row : ∀ (j : Nat) (s : Si), ss[j]? = some s → ∃ s', ss'[j]? = some s' ∧ (j < i → DpP s s' s.lv.length) ∧ (i ≤ j → s' = s)
theorem DpSs.start (ss : List Si) : DpSs ss ss 0 := ⟨rfl, fun j s h => ⟨s, h, fun h => by omega, fun _ => rfl⟩⟩
theorem DpSs.step {ss ss' : List Si} {i : Nat} {s s' : Si} (h : DpSs ss ss' i) (hs : ss[i]? = some s) (hp : DpP s s' s.lv.length) : DpSs ss (ss'.set i s') (i + 1) := by
  have hi : i < ss'.length := by rw [h.len]; exact (List.getElem?_eq_some_iff.1 hs).1
  refine ⟨by rw [List.length_set]; exact h.len, fun j x hx => ?_⟩
  by_cases e : i = j
  · subst e
    rw [hs, Option.some.injEq] at hx
    subst hx
    exact ⟨s', List.getElem?_set_self hi, fun _ => hp, fun h => by omega⟩
  · rw [List.getElem?_set_ne e]
    obtain ⟨y, h1, h2, h3⟩ := h.row j x hx
    exact ⟨y, h1, fun hj => h2 (by omega), fun hj => h3 (by omega)⟩
theorem DpP.start {s : Si} {a b : Int} (h : 0 ≤ a) (h2 : a ≤ s.t0) (h3 : s.t0 ≤ b) (h4 : b ≤ s.t1) : DpP s ⟨a, b, s.lv⟩ 0 := ⟨⟨h, h2⟩, ⟨by dsimp only; omega, h4⟩, rfl, fun j l hl => ⟨l, hl, fun h => by omega, fun _ => rfl⟩⟩
theorem DpP.step {s s' : Si} {k : Nat} {l l' : Lv} (h : DpP s s' k) (hl : s.lv[k]? = some l) (hp : DpL l l') : DpP s ⟨s'.t0, s'.t1, s'.lv.set k l'⟩ (k + 1) := by
  have hk : k < s'.lv.length := by rw [h.len]; exact (List.getElem?_eq_some_iff.1 hl).1
  refine ⟨h.t0, h.t1, by dsimp only; rw [List.length_set]; exact h.len, fun j x hx => ?_⟩
  dsimp only
  by_cases e : k = j
  · subst e
    rw [hl, Option.some.injEq] at hx
    subst hx
    exact ⟨l', List.getElem?_set_self hk, fun _ => hp, fun h => by omega⟩
  · rw [List.getElem?_set_ne e]
    obtain ⟨y, h1, h2, h3⟩ := h.lv j x hx
    exact ⟨y, h1, fun hj => h2 (by omega), fun hj => h3 (by omega)⟩
theorem lvl_cells {w : World} {B q n c : Nat} {lv : List Lv} (h : w.ownsRow B 75 3 (.slice (some ⟨q, 0, none⟩) n c) lv.length (lv.map lvr).flatten) {i : Nat} {l : Lv} (hz : lv[i]? = some l) :
    w.cell? ⟨q, i * 3, none⟩ = some (.int .i64 l.fr) ∧ w.cell? ⟨q, i * 3 + 1, none⟩ = some (.int .i64 l.d0) ∧ w.cell? ⟨q, i * 3 + 2, none⟩ = some (.int .i64 l.d1) ∧ ∀ o, w.frozen? ⟨q, o, none⟩ = false := by
  obtain ⟨A, c2, e, hsl⟩ := own_sl h (lvr_three _) (by simp)
  have e2 := e
  simp only [Value.slice.injEq] at e2
  obtain ⟨rfl, rfl, rfl⟩ := e2
  have hi := (List.getElem?_eq_some_iff.1 hz).1
  obtain ⟨ad, e1, _, c0, c1, c2'⟩ := lv_at hsl hi
  rw [List.getElem?_eq_getElem hi, Option.some.injEq] at hz
  rw [hz] at c0 c1 c2'
  simp only [Option.some.injEq] at e1
  subst e1
  have e : (⟨q, 0, none⟩ : Addr).add (i * 3) = ⟨q, i * 3, none⟩ := by unfold Addr.add; split <;> simp_all
  rw [e] at c0 c1 c2'
  exact ⟨c0, c1, c2', own_free h⟩
end Go.Proofs.Ytfcpjkofbejleaa

/-! Mathematics of layer 7: what is known better (for ShipBetter). -/
namespace Go.Proofs.Ytfcpjkofbejleaa
open Go Go.RowKit
/-! What is known better. -/
/-- A lot whose tonnes are known better. -/
structure TgC (c c' : Cg) : Prop where
  t0 : c.t0 ≤ c'.t0
  t01 : c'.t0 ≤ c'.t1
  t1 : c'.t1 ≤ c.t1
  wo : c'.wo = c.wo
/-- Lots that are known better. -/
def TgL (ls ls' : List Cg) : Prop := ls'.length = ls.length ∧ ∀ (i : Nat) (c c' : Cg), ls[i]? = some c → ls'[i]? = some c' → TgC c c'
/-- A level that is known better. -/
structure TgV (l l' : Lv) : Prop where
  fr : l'.fr = l.fr
  d0 : l.d0 ≤ l'.d0
  d01 : l'.d0 ≤ l'.d1
  d1 : l'.d1 ≤ l.d1
/-- A sill that is known better. -/
structure TgS (s s' : Si) : Prop where
  t0 : s.t0 ≤ s'.t0
  t01 : s'.t0 ≤ s'.t1
  t1 : s'.t1 ≤ s.t1
  len : s'.lv.length = s.lv.length
  lv : ∀ (j : Nat) (l l' : Lv), s.lv[j]? = some l → s'.lv[j]? = some l' → TgV l l'
end Go.Proofs.Ytfcpjkofbejleaa

/-! Mathematics of layer 7: what is known better; lots of a voyage of one's own. -/
namespace Go.Proofs.Ytfcpjkofbejleaa
open Go Go.RowKit
/-! What is known better: voyages are valid, verdicts stay. -/
theorem TgV.refl {l : Lv} (h : l.d0 ≤ l.d1) : TgV l l := ⟨rfl, Int.le_refl _, h, Int.le_refl _⟩
theorem TgV.trans {a b c : Lv} (h : TgV a b) (k : TgV b c) : TgV a c := ⟨k.fr.trans h.fr, Int.le_trans h.d0 k.d0, k.d01, Int.le_trans k.d1 h.d1⟩
theorem TgS.refl {s : Si} (h : s.Ok) : TgS s s := ⟨Int.le_refl _, h.t01, Int.le_refl _, rfl, fun j l l' h1 h2 => by
  rw [h1, Option.some.injEq] at h2
  subst h2
  exact .refl (h.lv l (List.mem_of_getElem? h1)).d01⟩
theorem TgS.trans {a b c : Si} (h : TgS a b) (k : TgS b c) : TgS a c := ⟨Int.le_trans h.t0 k.t0, k.t01, Int.le_trans k.t1 h.t1, k.len.trans h.len, fun j x z hx hz => by
  have hj : j < b.lv.length := by rw [h.len]; exact (List.getElem?_eq_some_iff.1 hx).1
  exact (h.lv j x _ hx (List.getElem?_eq_getElem hj)).trans (k.lv j _ z (List.getElem?_eq_getElem hj) hz)⟩
/-- Sills that are known better. -/
def TgSs (ss ss' : List Si) : Prop := ss'.length = ss.length ∧ ∀ (j : Nat) (s s' : Si), ss[j]? = some s → ss'[j]? = some s' → TgS s s'
theorem TgSs.start {ss : List Si} (h : ∀ s ∈ ss, s.Ok) : TgSs ss ss := ⟨rfl, fun j s s' h1 h2 => by
  rw [h1, Option.some.injEq] at h2
  subst h2
  exact .refl (h s (List.mem_of_getElem? h1))⟩
theorem TgSs.step {ss ss' : List Si} {i : Nat} {b b' : Si} (h : TgSs ss ss') (hb : ss'[i]? = some b) (k : TgS b b') : TgSs ss (ss'.set i b') := by
  have hi : i < ss'.length := (List.getElem?_eq_some_iff.1 hb).1
  refine ⟨by rw [List.length_set]; exact h.1, fun j s s' h1 h2 => ?_⟩
  by_cases e : i = j
  · subst e
    rw [List.getElem?_set_self hi, Option.some.injEq] at h2
    subst h2
    exact (h.2 i s b h1 hb).trans k
  · rw [List.getElem?_set_ne e] at h2
    exact h.2 j s s' h1 h2
theorem TgS.start {s : Si} {a b : Int} (ho : ∀ l ∈ s.lv, l.d0 ≤ l.d1) (h1 : s.t0 ≤ a) (h2 : a ≤ b) (h3 : b ≤ s.t1) : TgS s ⟨a, b, s.lv⟩ := ⟨h1, h2, h3, rfl, fun j l l' h4 h5 => by
  rw [h4, Option.some.injEq] at h5
  subst h5
  exact .refl (ho l (List.mem_of_getElem? h4))⟩
theorem TgS.step {s s' : Si} {k : Nat} {l l' : Lv} (h : TgS s s') (hl : s'.lv[k]? = some l) (hp : TgV l l') : TgS s ⟨s'.t0, s'.t1, s'.lv.set k l'⟩ := by
  have hk : k < s'.lv.length := (List.getElem?_eq_some_iff.1 hl).1
  refine ⟨h.t0, h.t01, h.t1, by dsimp only; rw [List.length_set]; exact h.len, fun j x y hx hy => ?_⟩
  dsimp only at hy
  by_cases e : k = j
  · subst e
    rw [List.getElem?_set_self hk, Option.some.injEq] at hy
    subst hy
    exact (h.lv k x l hx hl).trans hp
  · rw [List.getElem?_set_ne e] at hy
    exact h.lv j x y hx hy
theorem TgL.start {ls : List Cg} (h : ∀ c ∈ ls, c.Ok) : TgL ls ls := ⟨rfl, fun j s s' h1 h2 => by
  rw [h1, Option.some.injEq] at h2
  subst h2
  have := (h s (List.mem_of_getElem? h1)).t01
  exact ⟨Int.le_refl _, this, Int.le_refl _, rfl⟩⟩
theorem TgL.step {ls ls' : List Cg} {i : Nat} {b : Cg} {a c : Int} (h : TgL ls ls') (hb : ls'[i]? = some b) (h1 : b.t0 ≤ a) (h2 : a ≤ c) (h3 : c ≤ b.t1) : TgL ls (ls'.set i ⟨a, c, b.wo⟩) := by
  have hi : i < ls'.length := (List.getElem?_eq_some_iff.1 hb).1
  refine ⟨by rw [List.length_set]; exact h.1, fun j s s' h4 h5 => ?_⟩
  by_cases e : i = j
  · subst e
    rw [List.getElem?_set_self hi, Option.some.injEq] at h5
    subst h5
    have k := h.2 i s b h4 hb
    exact ⟨Int.le_trans k.t0 h1, h2, Int.le_trans h3 k.t1, k.wo⟩
  · rw [List.getElem?_set_ne e] at h5
    exact h.2 j s s' h4 h5
theorem TgL.ok {ls ls' : List Cg} (h : TgL ls ls') (ho : ∀ c ∈ ls, c.Ok) {i : Nat} {b : Cg} (hb : ls'[i]? = some b) : b.Ok := by
  have hi : i < ls.length := by rw [← h.1]; exact (List.getElem?_eq_some_iff.1 hb).1
  have k := h.2 i _ b (List.getElem?_eq_getElem hi) hb
  have o := ho _ (List.getElem_mem hi)
  have := k.t0; have := k.t01; have := k.t1; have := o.t0; have := o.t1
  exact ⟨by omega, by omega, by omega, by rw [k.wo]; exact o.wo⟩
theorem tg_fr {s s' : Si} (h : TgS s s') : s'.lv.map Lv.fr = s.lv.map Lv.fr := by
  refine List.ext_getElem? fun j => ?_
  rw [List.getElem?_map, List.getElem?_map]
  cases hl : s.lv[j]? with
  | none =>
    have hj : s.lv.length ≤ j := List.getElem?_eq_none_iff.1 hl
    rw [List.getElem?_eq_none (by rw [h.len]; exact hj)]
  | some l =>
    have hj : j < s'.lv.length := by rw [h.len]; exact (List.getElem?_eq_some_iff.1 hl).1
    rw [List.getElem?_eq_getElem hj]
    simp only [Option.map_some]
    rw [(h.lv j l _ hl (List.getElem?_eq_getElem hj)).fr]
theorem TgS.ok {s s' : Si} (h : TgS s s') (ho : s.Ok) (h0 : ∀ l, s.lv[0]? = some l → l.fr = 0) : s'.Ok ∧ ∀ l, s'.lv[0]? = some l → l.fr = 0 := by
  have hf := tg_fr h
  have hat : ∀ (j : Nat) (l' : Lv), s'.lv[j]? = some l' → ∃ l, s.lv[j]? = some l ∧ TgV l l' := fun j l' hl' => by
    have hj : j < s.lv.length := by rw [← h.len]; exact (List.getElem?_eq_some_iff.1 hl').1
    exact ⟨_, List.getElem?_eq_getElem hj, h.lv j _ l' (List.getElem?_eq_getElem hj) hl'⟩
  refine ⟨⟨by have := h.t0; have := ho.t0; omega, h.t01, by have := h.t1; have := ho.t1; omega, by rw [h.len]; exact ho.l1, by rw [h.len]; exact ho.l6, ?_, fun l' hl' => ?_⟩, fun l' hl' => ?_⟩
  · have e : ∀ L : List Lv, (L.Pairwise fun x y => x.fr < y.fr) ↔ (L.map Lv.fr).Pairwise (· < ·) := fun L => by rw [List.pairwise_map]
    rw [e, hf, ← e]
    exact ho.asc
  · obtain ⟨j, hj⟩ := List.getElem?_of_mem hl'
    obtain ⟨l, hl, hp⟩ := hat j l' hj
    have o := ho.lv l (List.mem_of_getElem? hl)
    have := hp.fr; have := hp.d0; have := hp.d01; have := hp.d1; have := o.fr; have := o.d0; have := o.d1
    exact ⟨by omega, by omega, by omega, by omega⟩
  · obtain ⟨l, hl, hp⟩ := hat 0 l' hl'
    rw [hp.fr]
    exact h0 l hl
theorem TgSs.at_ {ss ss' : List Si} (h : TgSs ss ss') {i : Nat} {b : Si} (hb : ss'[i]? = some b) : ∃ s, s ∈ ss ∧ TgS s b := by
  have hi : i < ss.length := by rw [← h.1]; exact (List.getElem?_eq_some_iff.1 hb).1
  exact ⟨_, List.getElem_mem hi, h.2 i _ b (List.getElem?_eq_getElem hi) hb⟩
section
variable {g : Nat} {V wr x : World} {q : Nat} {li un tr le : Int} {hs : List Hd} {ss : List Si} {ls : List Cg} {hv sv lv : Value} {rs : List (List Value)}
/-- A number of a lot is set. -/
theorem XV.lot {yq n c : Nat} (h : XV g V q li un tr le hs ss ls hv sv (.slice (some ⟨yq, 0, none⟩) n c) rs wr) (hn : ls.length = n) {i : Nat} {b b' : Cg} (hb : ls[i]? = some b) (o : Nat) (ho : o < 3) (z : Int) (hrow : (cgr b).set o (.int .i64 z) = cgr b') :
    XV g V q li un tr le hs ss (ls.set i b') hv sv (.slice (some ⟨yq, 0, none⟩) n c) rs (wr.setCell ⟨yq, i * 3 + o, none⟩ (.int .i64 z)) := by
  subst hn
  have hib := (List.getElem?_eq_some_iff.1 hb).1
  have k : wr.grownBy (wr.setCell ⟨yq, i * 3 + o, none⟩ (.int .i64 z)) (Value.slice (some ⟨yq, 0, none⟩) ls.length c).ownBlock := grown_set _ _ _ _
  have o1 := own_store h.ol (i * 3 + o) (.int .i64 z) (by omega)
  rw [flatten_set (ls.map cgr) (cgr_three _) i o (cgr b) _ (by rw [List.getElem?_map, hb]; rfl) ho, hrow] at o1
  refine ⟨h.k.grown k (own_bx h.ol h.k (by decide)), h.hq, h.hqg, h.oh.kept k (own_ne h.oh h.ol (by decide)), h.os.kept k (own_ne h.os h.ol (by decide)), h.so.own h.ol k (by decide), h.ap, ?_, h.ft.own h.ol k (Nat.le_refl _) (by decide)⟩
  rw [List.length_set, List.map_set]
  exact o1
end
theorem lot_cells {w : World} {B q n c : Nat} {L : List Cg} (h : w.ownsRow B 70 3 (.slice (some ⟨q, 0, none⟩) n c) L.length (L.map cgr).flatten) {i : Nat} {l : Cg} (hz : L[i]? = some l) :
    w.cell? ⟨q, i * 3, none⟩ = some (.int .i64 l.t0) ∧ w.cell? ⟨q, i * 3 + 1, none⟩ = some (.int .i64 l.t1) ∧ w.cell? ⟨q, i * 3 + 2, none⟩ = some (.int .i64 l.wo) ∧ ∀ o, w.frozen? ⟨q, o, none⟩ = false := by
  obtain ⟨A, c2, e, hsl⟩ := own_sl h (cgr_three _) (by simp)
  have e2 := e
  simp only [Value.slice.injEq] at e2
  obtain ⟨rfl, rfl, rfl⟩ := e2
  have hi := (List.getElem?_eq_some_iff.1 hz).1
  obtain ⟨ad, e1, _, c0, c1, c2'⟩ := cg_at hsl hi
  rw [List.getElem?_eq_getElem hi, Option.some.injEq] at hz
  rw [hz] at c0 c1 c2'
  simp only [Option.some.injEq] at e1
  subst e1
  have e : (⟨q, 0, none⟩ : Addr).add (i * 3) = ⟨q, i * 3, none⟩ := by unfold Addr.add; split <;> simp_all
  rw [e] at c0 c1 c2'
  exact ⟨c0, c1, c2', own_free h⟩
end Go.Proofs.Ytfcpjkofbejleaa
