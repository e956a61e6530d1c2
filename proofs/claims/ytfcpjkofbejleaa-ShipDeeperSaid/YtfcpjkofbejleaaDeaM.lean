/- Copies of voyages that are changed while a feed turns. -/
import Derived.Test.YtfcpjkofbejleaaCvaM
import Derived.Test.YtfcpjkofbejleaaCvb
set_option linter.unusedSimpArgs false
set_option linter.unusedVariables false
namespace Go.Proofs.Ytfcpjkofbejleaa
open Go Go.RowKit
/-- A voyage of one's own: its box q, its rows behind V; the feed g turns. -/
structure XV (g : Nat) (V : World) (q : Nat) (li un tr le : Int) (hs : List Hd) (ss : List Si) (ls : List Cg) (hv sv lv : Value) (rs : List (List Value)) (wr : World) : Prop where
  k : Bx wr q 26 #[.int .i64 li, .int .i64 un, .int .i64 tr, hv, .int .i64 le, sv, lv]
  hq : V.heap.size ≤ q
  hqg : q ≠ g
  oh : wr.ownsRow V.heap.size 85 3 hv hs.length (hs.map hdr).flatten
  os : wr.ownsRow V.heap.size 73 3 sv ss.length rs.flatten
  so : SisOwn wr V.heap.size rs ss
  ap : Apt2 rs
  ol : wr.ownsRow V.heap.size 70 3 lv ls.length (ls.map cgr).flatten
  ft : FT g V wr
section
variable {g : Nat} {V wr x : World} {q : Nat} {li un tr le : Int} {hs : List Hd} {ss : List Si} {ls : List Cg} {hv sv lv : Value} {rs : List (List Value)}
theorem XV.of (h : CV V q li un tr le hs ss ls hv sv lv rs wr) (hf : Fd g V) : XV g V q li un tr le hs ss ls hv sv lv rs wr :=
  ⟨h.k, h.hq, by have := hf.lt; have := h.hq; omega, h.oh, h.os, h.so, h.ap, h.ol, (FT.self hf).bel h.hb⟩
theorem XV.go (h : XV g V q li un tr le hs ss ls hv sv lv rs wr) (k : FT g wr x) : XV g V q li un tr le hs ss ls hv sv lv rs x :=
  ⟨k.bx h.k h.hqg, h.hq, h.hqg, k.row h.ft.2 h.oh (by decide), k.row h.ft.2 h.os (by decide), h.so.ft h.ft.2 k.1, h.ap, k.row h.ft.2 h.ol (by decide), ⟨grownF_trans h.ft.1 k.1, k.2⟩⟩
theorem XV.voy (h : XV g V q li un tr le hs ss ls hv sv lv rs wr) {HA SA LA : Option Addr} {hn hc sn sc ln lc : Nat} (e1 : hv = .slice HA hn hc) (e2 : sv = .slice SA sn sc) (e3 : lv = .slice LA ln lc) (h1 : hs.length = hn) (h2 : ss.length = sn) (h3 : ls.length = ln) :
    VoyAt wr wr.heap.size ⟨li, un, tr, le, hs, ss, ls⟩ ⟨HA, hn, hc, SA, sn, sc, LA, ln, lc⟩ := by
  subst e1 e2 e3 h1 h2 h3
  exact ⟨rfl, rfl, rfl, own_rows h.oh (hdr_three _) (by simp), h.so.at_ h.os rfl, own_rows h.ol (cgr_three _) (by simp)⟩
/-- A store into the holds. -/
theorem XV.put (h : XV g V q li un tr le hs ss ls hv sv lv rs wr) {hs' : List Hd} (k : wr.grownBy x hv.ownBlock) (o : x.ownsRow V.heap.size 85 3 hv hs'.length (hs'.map hdr).flatten) : XV g V q li un tr le hs' ss ls hv sv lv rs x :=
  ⟨h.k.grown k (own_bx h.oh h.k (by decide)), h.hq, h.hqg, o, h.os.kept k (own_ne h.os h.oh (by decide)), h.so.own h.oh k (by decide), h.ap, h.ol.kept k (own_ne h.ol h.oh (by decide)), h.ft.own h.oh k (Nat.le_refl _) (by decide)⟩
theorem XV.hold (h : XV g V q li un tr le hs ss ls hv sv lv rs wr) {z : Hd} {v' : Value} (k : wr.grownBy x hv.ownBlock) (o : x.ownsRow V.heap.size 85 3 v' (hs.length + 1) ((hs.map hdr).flatten ++ hdr z)) : XV g V q li un tr le (hs ++ [z]) ss ls v' sv lv rs (x.setCell ⟨q, 3, none⟩ v') := by
  have kq := h.k.grown k (own_bx h.oh h.k (by decide))
  have os' := h.os.kept k (own_ne h.os h.oh (by decide))
  have ol' := h.ol.kept k (own_ne h.ol h.oh (by decide))
  have ft' : FT g V x := h.ft.own h.oh k (Nat.le_refl _) (by decide)
  refine ⟨?_, h.hq, h.hqg, ?_, own_set os' (own_bx os' kq (by decide)) _, (h.so.own h.oh k (by decide)).set_ kq (by decide) 3 v', h.ap, own_set ol' (own_bx ol' kq (by decide)) _, ft'.set_ h.hq (Ne.symm h.hqg) _ _⟩
  · have := kq.set_ 3 v'; simpa using this
  · rw [List.length_append, hdr_snoc]
    exact own_set o (own_bx o kq (by decide)) v'
end
end Go.Proofs.Ytfcpjkofbejleaa

/-! Copies of voyages: sills and levels that are changed. -/
namespace Go.Proofs.Ytfcpjkofbejleaa
open Go Go.RowKit
/-- The levels of sill i. -/
def HeadIs2 (rs : List (List Value)) (i : Nat) (v : Value) : Prop := ∃ r, rs[i]? = some r ∧ r[2]? = some v
theorem Apt2.set_ {rs : List (List Value)} (ha : Apt2 rs) {i : Nat} {r r' : List Value} (hr : rs[i]? = some r) (h0 : r'[2]? = r[2]?) : Apt2 (rs.set i r') := by
  have hi : i < rs.length := (List.getElem?_eq_some_iff.1 hr).1
  have key : ∀ (j : Nat) (s : List Value), (rs.set i r')[j]? = some s → ∃ s', rs[j]? = some s' ∧ s[2]? = s'[2]? := fun j s hs => by
    by_cases hj : i = j
    · subst hj
      rw [List.getElem?_set_self hi, Option.some.injEq] at hs
      subst hs
      exact ⟨r, hr, h0⟩
    · rw [List.getElem?_set_ne hj] at hs
      exact ⟨s, hs, rfl⟩
  intro a b s t u v hab h1 h2 hu hv
  obtain ⟨s', e1, e2⟩ := key a s h1
  obtain ⟨t', e3, e4⟩ := key b t h2
  exact ha a b s' t' u v hab e1 e3 (e2 ▸ hu) (e4 ▸ hv)
theorem HeadIs2.set_ {rs : List (List Value)} {i j : Nat} {r r' : List Value} {v : Value} (h : HeadIs2 rs j v) (hr : rs[i]? = some r) (h0 : r'[2]? = r[2]?) : HeadIs2 (rs.set i r') j v := by
  have hi : i < rs.length := (List.getElem?_eq_some_iff.1 hr).1
  obtain ⟨s, e1, e2⟩ := h
  by_cases hj : i = j
  · subst hj
    rw [hr, Option.some.injEq] at e1
    subst e1
    exact ⟨r', List.getElem?_set_self hi, h0.trans e2⟩
  · exact ⟨s, by rw [List.getElem?_set_ne hj]; exact e1, e2⟩
section
variable {g : Nat} {V wr x : World} {q : Nat} {li un tr le : Int} {hs : List Hd} {ss : List Si} {ls : List Cg} {hv sv lv : Value} {rs : List (List Value)}
/-- A number of the voyage's box is changed. -/
theorem XV.num (h : XV g V q li un tr le hs ss ls hv sv lv rs wr) (i : Nat) (z un' le' : Int) (hi : (#[.int .i64 li, .int .i64 un, .int .i64 tr, hv, .int .i64 le, sv, lv] : Array Value).setIfInBounds i (.int .i64 z) = #[.int .i64 li, .int .i64 un', .int .i64 tr, hv, .int .i64 le', sv, lv]) : XV g V q li un' tr le' hs ss ls hv sv lv rs (wr.setCell ⟨q, i, none⟩ (.int .i64 z)) := by
  refine ⟨?_, h.hq, h.hqg, own_set h.oh (own_bx h.oh h.k (by decide)) _, own_set h.os (own_bx h.os h.k (by decide)) _, h.so.set_ h.k (by decide) i _, h.ap, own_set h.ol (own_bx h.ol h.k (by decide)) _, h.ft.set_ h.hq (Ne.symm h.hqg) _ _⟩
  have := h.k.set_ i (.int .i64 z)
  rw [hi] at this
  exact this
/-- Sills are changed. -/
theorem XV.putS (h : XV g V q li un tr le hs ss ls hv sv lv rs wr) {ss' : List Si} {rs' : List (List Value)} (k : wr.grownBy x sv.ownBlock) (o : x.ownsRow V.heap.size 73 3 sv ss'.length rs'.flatten) (so : SisOwn x V.heap.size rs' ss') (ap : Apt2 rs') : XV g V q li un tr le hs ss' ls hv sv lv rs' x :=
  ⟨h.k.grown k (own_bx h.os h.k (by decide)), h.hq, h.hqg, h.oh.kept k (own_ne h.oh h.os (by decide)), o, so, ap, h.ol.kept k (own_ne h.ol h.os (by decide)), h.ft.own h.os k (Nat.le_refl _) (by decide)⟩
/-- A number of a sill is set. -/
theorem XV.cell {yq n c : Nat} (h : XV g V q li un tr le hs ss ls hv (.slice (some ⟨yq, 0, none⟩) n c) lv rs wr) (hn : ss.length = n) {i : Nat} {b b' : Si} (hb : ss[i]? = some b) (o : Nat) (ho : o < 2) (z : Int) (hg : b'.lv = b.lv) (hrow : ∀ A C, ([.int .i64 b.t0, .int .i64 b.t1, .slice A b.lv.length C] : List Value).set o (.int .i64 z) = [.int .i64 b'.t0, .int .i64 b'.t1, .slice A b'.lv.length C]) :
    ∃ rs', XV g V q li un tr le hs (ss.set i b') ls hv (.slice (some ⟨yq, 0, none⟩) n c) lv rs' (wr.setCell ⟨yq, i * 3 + o, none⟩ (.int .i64 z)) ∧ ∀ j v, HeadIs2 rs j v → HeadIs2 rs' j v := by
  subst hn
  have hib : i < ss.length := (List.getElem?_eq_some_iff.1 hb).1
  have hir : i < rs.length := by rw [h.so.len]; exact hib
  obtain ⟨A, C, hr, og⟩ := h.so.row i rs[i] b (List.getElem?_eq_getElem hir) hb
  have h0 : (rs[i].set o (.int .i64 z))[2]? = rs[i][2]? := List.getElem?_set_ne (by omega)
  have k : wr.grownBy (wr.setCell ⟨yq, i * 3 + o, none⟩ (.int .i64 z)) (Value.slice (some ⟨yq, 0, none⟩) ss.length c).ownBlock := grown_set _ _ _ _
  refine ⟨rs.set i (rs[i].set o (.int .i64 z)), h.putS k ?_ ⟨by simp [h.so.len], fun j r b2 h1 h2 => ?_⟩ (h.ap.set_ (List.getElem?_eq_getElem hir) h0), fun j v hv => hv.set_ (List.getElem?_eq_getElem hir) h0⟩
  · rw [List.length_set, ← flatten_set rs h.so.three i o rs[i] _ (List.getElem?_eq_getElem hir) (by omega)]
    exact own_store h.os (i * 3 + o) _ (by omega)
  · by_cases hj : j = i
    · subst hj
      rw [List.getElem?_set_self hir] at h1
      rw [List.getElem?_set_self hib] at h2
      simp only [Option.some.injEq] at h1 h2
      subst h1 h2
      refine ⟨A, C, by rw [hr]; exact hrow A C, ?_⟩
      rw [hg]
      exact store_far h.os og (by decide)
    · rw [List.getElem?_set_ne (Ne.symm hj)] at h1 h2
      obtain ⟨A2, C2, e2, o2⟩ := h.so.row j r b2 h1 h2
      exact ⟨A2, C2, e2, store_far h.os o2 (by decide)⟩
/-- What can be read of sill i. -/
theorem XV.at_ {yq n c : Nat} (h : XV g V q li un tr le hs ss ls hv (.slice (some ⟨yq, 0, none⟩) n c) lv rs wr) (hn : ss.length = n) {i : Nat} {b : Si} (hb : ss[i]? = some b) :
    ∃ (G : Option Addr) (gc : Nat), wr.cell? ⟨yq, i * 3, none⟩ = some (.int .i64 b.t0) ∧ wr.cell? ⟨yq, i * 3 + 1, none⟩ = some (.int .i64 b.t1) ∧ wr.cell? ⟨yq, i * 3 + 2, none⟩ = some (.slice G b.lv.length gc) ∧ HeadIs2 rs i (.slice G b.lv.length gc) ∧ wr.ownsRow V.heap.size 75 3 (.slice G b.lv.length gc) b.lv.length (b.lv.map lvr).flatten := by
  subst hn
  have hib : i < ss.length := (List.getElem?_eq_some_iff.1 hb).1
  have hir : i < rs.length := by rw [h.so.len]; exact hib
  obtain ⟨A, C, hr, og⟩ := h.so.row i rs[i] b (List.getElem?_eq_getElem hir) hb
  obtain ⟨A', c', e, hs⟩ := own_sl h.os h.so.three h.so.len
  simp only [Value.slice.injEq, true_and] at e
  obtain ⟨rfl, rfl⟩ := e
  have hcells := hs.cells (by omega) h.so.three
  have cell : ∀ o, o < 3 → wr.cell? ⟨yq, i * 3 + o, none⟩ = rs[i][o]? := fun o ho => by
    have h4 : rs[i].length = 3 := h.so.three _ (List.getElem_mem hir)
    have e1 : rs[i][o]? = some rs[i][o] := List.getElem?_eq_getElem (by omega)
    have e2 := flat_at (s := 3) rs h.so.three i rs[i] (List.getElem?_eq_getElem hir) o _ e1
    have e3 := hcells _ _ e2
    rw [e1, ← e3]
    unfold Addr.add
    split <;> simp_all
  have c0 := cell 0 (by omega)
  have c1 := cell 1 (by omega)
  have c2 := cell 2 (by omega)
  rw [hr] at c0 c1 c2
  exact ⟨A, C, c0, c1, c2, ⟨rs[i], List.getElem?_eq_getElem hir, by rw [hr]; rfl⟩, og⟩
/-- A number of a level is set. -/
theorem XV.dep {gq n C : Nat} (h : XV g V q li un tr le hs ss ls hv sv lv rs wr) {i j : Nat} {b : Si} {l l' : Lv} (hH : HeadIs2 rs i (.slice (some ⟨gq, 0, none⟩) n C)) (hb : ss[i]? = some b) (hl : b.lv[j]? = some l) (o : Nat) (ho : o < 3) (z : Int) (hrow : (lvr l).set o (.int .i64 z) = lvr l') :
    XV g V q li un tr le hs (ss.set i ⟨b.t0, b.t1, b.lv.set j l'⟩) ls hv sv lv rs (wr.setCell ⟨gq, j * 3 + o, none⟩ (.int .i64 z)) := by
  have hib : i < ss.length := (List.getElem?_eq_some_iff.1 hb).1
  have hir : i < rs.length := by rw [h.so.len]; exact hib
  obtain ⟨A, C2, hr, og⟩ := h.so.row i rs[i] b (List.getElem?_eq_getElem hir) hb
  obtain ⟨r, e1, e2⟩ := hH
  rw [List.getElem?_eq_getElem hir, Option.some.injEq] at e1
  subst e1
  rw [hr] at e2
  simp only [List.getElem?_cons_succ, List.getElem?_cons_zero, Option.some.injEq, Value.slice.injEq] at e2
  obtain ⟨rfl, rfl, rfl⟩ := e2
  have hjl : j < b.lv.length := (List.getElem?_eq_some_iff.1 hl).1
  have k : wr.grownBy (wr.setCell ⟨gq, j * 3 + o, none⟩ (.int .i64 z)) (Value.slice (some ⟨gq, 0, none⟩) b.lv.length C2).ownBlock := grown_set _ _ _ _
  have og' := own_store og (j * 3 + o) (.int .i64 z) (by omega)
  rw [flatten_set (b.lv.map lvr) (lvr_three _) j o (lvr l) _ (by rw [List.getElem?_map, hl]; rfl) ho, hrow] at og'
  refine ⟨h.k.grown k (own_bx og h.k (by decide)), h.hq, h.hqg, h.oh.kept k (own_ne h.oh og (by decide)), by rw [List.length_set]; exact h.os.kept k (own_ne h.os og (by decide)), ⟨by simp [h.so.len], fun m r b2 h1 h2 => ?_⟩, h.ap, h.ol.kept k (own_ne h.ol og (by decide)), h.ft.own og k (Nat.le_refl _) (by decide)⟩
  by_cases hm : m = i
  · subst hm
    rw [List.getElem?_eq_getElem hir] at h1
    rw [List.getElem?_set_self hib] at h2
    simp only [Option.some.injEq] at h1 h2
    subst h1 h2
    refine ⟨some ⟨gq, 0, none⟩, C2, by rw [hr]; simp, ?_⟩
    dsimp only
    rw [List.length_set, List.map_set]
    exact og'
  · rw [List.getElem?_set_ne (Ne.symm hm)] at h2
    obtain ⟨A2, C3, e3, o3⟩ := h.so.row m r b2 h1 h2
    refine ⟨A2, C3, e3, o3.kept k ?_⟩
    rcases Nat.lt_or_gt_of_ne hm with hlt | hgt
    · have hsep := h.ap m i r rs[i] (.slice A2 b2.lv.length C3) (.slice (some ⟨gq, 0, none⟩) b.lv.length C2) hlt h1 (List.getElem?_eq_getElem hir) (by rw [e3]; rfl) (by rw [hr]; rfl)
      exact hsep
    · have hsep := h.ap i m rs[i] r (.slice (some ⟨gq, 0, none⟩) b.lv.length C2) (.slice A2 b2.lv.length C3) hgt (List.getElem?_eq_getElem hir) h1 (by rw [hr]; rfl) (by rw [e3]; rfl)
      rcases hsep with e | e
      · simp [Value.ownBlock] at e
      · exact .inr fun e' => e e'.symm
end
end Go.Proofs.Ytfcpjkofbejleaa

/-! Mathematics of layer 7: more water, shorter ways. -/
namespace Go.Proofs.Ytfcpjkofbejleaa
open Go Go.RowKit
/-! More water, shorter ways. -/
/-- A level that is deeper. -/
structure DpL (l l' : Lv) : Prop where
  fr : l'.fr = l.fr
  d0 : l.d0 ≤ l'.d0
  d1 : l.d1 ≤ l'.d1
  d01 : l'.d0 ≤ l'.d1
  up : l'.d1 ≤ l.d1 + 4
/-- A sill with shorter ways, and more water on the levels before k. -/
structure DpP (s s' : Si) (k : Nat) : Prop where
  t0 : 0 ≤ s'.t0 ∧ s'.t0 ≤ s.t0
  t1 : s'.t0 ≤ s'.t1 ∧ s'.t1 ≤ s.t1
  len : s'.lv.length = s.lv.length
  lv : ∀ (j : Nat) (l : Lv), s.lv[j]? = some l → ∃ l', s'.lv[j]? = some l' ∧ (j < k → DpL l l') ∧ (k ≤ j → l' = l)
structure DpSs (ss ss' : List Si) (i : Nat) : Prop where
  len : ss'.length = ss.length
  row : ∀ (j : Nat) (s : Si), ss[j]? = some s → ∃ s', ss'[j]? = some s' ∧ (j < i → DpP s s' s.lv.length) ∧ (i ≤ j → s' = s)
theorem DpSs.start (ss : List Si) : DpSs ss ss 0 := ⟨rfl, fun j s h => ⟨s, h, fun h => by omega, fun _ => rfl⟩⟩
theorem DpSs.step {ss ss' : List Si} {i : Nat} {s s' : Si} (h : DpSs ss ss' i) (hs : ss[i]? = some s) (hp : DpP s s' s.lv.length) : DpSs ss (ss'.set i s') (i + 1) := by
  have hi : i < ss'.length := by rw [h.len]; exact (List.getElem?_eq_some_iff.1 hs).1
  refine ⟨by rw [List.length_set]; exact h.len, fun j x hx => ?_⟩
  by_cases e : i = j
  · subst e
    rw [hs, Option.some.injEq] at hx
    subst hx
    exact ⟨s', List.getElem?_set_self hi, fun _ => hp, fun h => by omega⟩
  · rw [List.getElem?_set_ne e]
    obtain ⟨y, h1, h2, h3⟩ := h.row j x hx
    exact ⟨y, h1, fun hj => h2 (by omega), fun hj => h3 (by omega)⟩
theorem DpP.start {s : Si} {a b : Int} (h : 0 ≤ a) (h2 : a ≤ s.t0) (h3 : s.t0 ≤ b) (h4 : b ≤ s.t1) : DpP s ⟨a, b, s.lv⟩ 0 := ⟨⟨h, h2⟩, ⟨by dsimp only; omega, h4⟩, rfl, fun j l hl => ⟨l, hl, fun h => by omega, fun _ => rfl⟩⟩
theorem DpP.step {s s' : Si} {k : Nat} {l l' : Lv} (h : DpP s s' k) (hl : s.lv[k]? = some l) (hp : DpL l l') : DpP s ⟨s'.t0, s'.t1, s'.lv.set k l'⟩ (k + 1) := by
  have hk : k < s'.lv.length := by rw [h.len]; exact (List.getElem?_eq_some_iff.1 hl).1
  refine ⟨h.t0, h.t1, by dsimp only; rw [List.length_set]; exact h.len, fun j x hx => ?_⟩
  dsimp only
  by_cases e : k = j
  · subst e
    rw [hl, Option.some.injEq] at hx
    subst hx
    exact ⟨l', List.getElem?_set_self hk, fun _ => hp, fun h => by omega⟩
  · rw [List.getElem?_set_ne e]
    obtain ⟨y, h1, h2, h3⟩ := h.lv j x hx
    exact ⟨y, h1, fun hj => h2 (by omega), fun hj => h3 (by omega)⟩
theorem dp_bet : ∀ {ss ss' : List Si}, ss'.length = ss.length → (∀ (j : Nat) (s : Si), ss[j]? = some s → ∃ s', ss'[j]? = some s' ∧ DpP s s' s.lv.length) → ∀ g, Bet (lkS ss' g) (lkS ss g)
  | [], ss', h, _, g => by
    obtain rfl := List.eq_nil_of_length_eq_zero h
    exact .nil
  | s :: ss, [], h, _, g => by simp at h
  | s :: ss, s' :: ss', h, hr, g => by
    have ih := dp_bet (ss := ss) (ss' := ss') (by simpa using h) (fun j x hx => by
      have := hr (j + 1) x (by simpa using hx)
      simpa using this) g
    obtain ⟨y, hy, hp⟩ := hr 0 s rfl
    simp only [List.getElem?_cons_zero, Option.some.injEq] at hy
    subst hy
    refine .cons (by have := hp.t0.2; have := hp.t1.2; unfold way; split <;> omega) (by simp [lvL, hp.len]) (fun i a b ha hb => ?_) ih
    unfold lvL at ha hb
    rw [List.getElem?_map] at ha hb
    cases hl : s.lv[i]? with
    | none => rw [hl] at hb; cases hb
    | some l =>
      obtain ⟨l', e1, e2, _⟩ := hp.lv i l hl
      have hd := e2 (List.getElem?_eq_some_iff.1 hl).1
      rw [hl] at hb
      rw [e1] at ha
      simp only [Option.map_some, Option.some.injEq] at ha hb
      subst ha hb
      refine ⟨hd.fr, ?_⟩
      dsimp only
      cases g
      · exact hd.d0
      · exact hd.d1
theorem dp_fr {s s' : Si} (h : DpP s s' s.lv.length) : s'.lv.map Lv.fr = s.lv.map Lv.fr := by
  refine List.ext_getElem? fun j => ?_
  rw [List.getElem?_map, List.getElem?_map]
  cases hl : s.lv[j]? with
  | none =>
    have hj : s.lv.length ≤ j := List.getElem?_eq_none_iff.1 hl
    rw [List.getElem?_eq_none (by rw [h.len]; exact hj)]
  | some l =>
    obtain ⟨l', e1, e2, _⟩ := h.lv j l hl
    rw [e1]
    simp only [Option.map_some]
    rw [(e2 (List.getElem?_eq_some_iff.1 hl).1).fr]
theorem dp_ok {s s' : Si} (ho : s.Ok) (h : DpP s s' s.lv.length) (hd : ∀ l ∈ s.lv, l.d1 ≤ 9000) (h0 : ∀ l, s.lv[0]? = some l → l.fr = 0) : s'.Ok ∧ ∀ l, s'.lv[0]? = some l → l.fr = 0 := by
  have hf := dp_fr h
  have hmem : ∀ l' ∈ s'.lv, ∃ l ∈ s.lv, DpL l l' := fun l' hl' => by
    obtain ⟨j, hj⟩ := List.getElem?_of_mem hl'
    have hjl : j < s.lv.length := by rw [← h.len]; exact (List.getElem?_eq_some_iff.1 hj).1
    obtain ⟨y, e1, e2, _⟩ := h.lv j _ (List.getElem?_eq_getElem hjl)
    rw [hj, Option.some.injEq] at e1
    subst e1
    exact ⟨_, List.getElem_mem hjl, e2 hjl⟩
  refine ⟨⟨h.t0.1, h.t1.1, by have := h.t1.2; have := ho.t1; omega, by rw [h.len]; exact ho.l1, by rw [h.len]; exact ho.l6, ?_, fun l' hl' => ?_⟩, fun l' hl' => ?_⟩
  · have e : ∀ L : List Lv, (L.Pairwise fun x y => x.fr < y.fr) ↔ (L.map Lv.fr).Pairwise (· < ·) := fun L => by rw [List.pairwise_map]
    rw [e, hf, ← e]
    exact ho.asc
  · obtain ⟨l, hl, hp⟩ := hmem l' hl'
    have o := ho.lv l hl
    have := hd l hl
    have := hp.fr; have := hp.d0; have := hp.d01; have := hp.up; have := o.fr; have := o.d0
    exact ⟨by omega, by omega, by omega, by omega⟩
  · have h1 : 0 < s.lv.length := by rw [← h.len]; exact (List.getElem?_eq_some_iff.1 hl').1
    obtain ⟨y, e1, e2, _⟩ := h.lv 0 _ (List.getElem?_eq_getElem h1)
    rw [hl', Option.some.injEq] at e1
    subst e1
    rw [(e2 h1).fr]
    exact h0 _ (List.getElem?_eq_getElem h1)
/-- A voyage with more water, shorter ways and an earlier start is valid, and its stowages are. -/
theorem deeper_ok {v : Vg} {un le : Int} {ss' : List Si} {H S L T : Int} (hs : SmallV v H S L T) (ho : v.Ok) (hT : T ≤ 900) (h : DpSs v.ss ss' v.ss.length) (hu : 0 ≤ un ∧ un ≤ v.un) (hl : 0 ≤ le ∧ le ≤ v.le) : ckV ⟨v.li, un, v.tr, le, v.hs, ss', v.ls⟩ = 0 := by
  have hrow : ∀ s' ∈ ss', ∃ s ∈ v.ss, DpP s s' s.lv.length := fun s' hs' => by
    obtain ⟨j, hj⟩ := List.getElem?_of_mem hs'
    have hjl : j < v.ss.length := by rw [← h.len]; exact (List.getElem?_eq_some_iff.1 hj).1
    obtain ⟨y, e1, e2, _⟩ := h.row j _ (List.getElem?_eq_getElem hjl)
    rw [hj, Option.some.injEq] at e1
    subst e1
    exact ⟨_, List.getElem_mem hjl, e2 hjl⟩
  have key : ∀ s' ∈ ss', s'.Ok ∧ ∀ l, s'.lv[0]? = some l → l.fr = 0 := fun s' hs' => by
    obtain ⟨s, hm, hp⟩ := hrow s' hs'
    have k := (hs.ss s hm).2.2.2.2.2
    exact dp_ok (ho.ss s hm) hp (fun l hl => by have := k.ok l hl; omega) k.zero
  exact ok_ck ⟨ho.li, by have := ho.un; dsimp only; omega, ho.tr, by have := ho.le; dsimp only; omega, ho.h1, ho.h3, ho.hs, by dsimp only; rw [h.len]; exact ho.s4, fun s hs => (key s hs).1, ho.l6, ho.ls⟩ fun s hs => (key s hs).2
theorem deeper_st {v x : Vg} {s : List Int} (hx : ckV x = 0) (h1 : x.hs = v.hs) (h2 : x.ls = v.ls) (h : ckSt v s = 0) : ckSt x s = 0 := by
  have k := ckSt_ok h
  unfold ckSt
  rw [if_neg (by rw [hx]; simp), h1, h2, if_neg (by rw [k.len]; simp), if_neg (by rw [inHb_iff.2 k.inh]; simp), if_neg (by rw [k.room]; simp)]
theorem deeper_sooner {v : Vg} {un le : Int} {ss' : List Si} {s : List Int} (hst : ckSt v s = 0) (hx : ckV ⟨v.li, un, v.tr, le, v.hs, ss', v.ls⟩ = 0) (h : DpSs v.ss ss' v.ss.length) (hu : un ≤ v.un) (hl : le ≤ v.le) :
    NoWorse ss'.length (salM v (abd v.ls s) true).length (salM v (abd v.ls s) false).length (salM ⟨v.li, un, v.tr, le, v.hs, ss', v.ls⟩ (abd v.ls s) true).length (salM ⟨v.li, un, v.tr, le, v.hs, ss', v.ls⟩ (abd v.ls s) false).length ∧ NoLater (overM v (abd v.ls s)) (overM ⟨v.li, un, v.tr, le, v.hs, ss', v.ls⟩ (abd v.ls s)) :=
  sooner_of (v := v) (x := ⟨v.li, un, v.tr, le, v.hs, ss', v.ls⟩) (ckSt_ok hst) (ckSt_ok (deeper_st (v := v) (x := ⟨v.li, un, v.tr, le, v.hs, ss', v.ls⟩) hx rfl rfl hst)) hl h.len.symm (fun g => by
    unfold needsM deepB deepS
    dsimp only
    omega) fun g => dp_bet h.len (fun j s hs => by
      obtain ⟨s', e1, e2, _⟩ := h.row j s hs
      exact ⟨s', e1, e2 (List.getElem?_eq_some_iff.1 hs).1⟩) g
theorem lvl_cells {w : World} {B q n c : Nat} {lv : List Lv} (h : w.ownsRow B 75 3 (.slice (some ⟨q, 0, none⟩) n c) lv.length (lv.map lvr).flatten) {i : Nat} {l : Lv} (hz : lv[i]? = some l) :
    w.cell? ⟨q, i * 3, none⟩ = some (.int .i64 l.fr) ∧ w.cell? ⟨q, i * 3 + 1, none⟩ = some (.int .i64 l.d0) ∧ w.cell? ⟨q, i * 3 + 2, none⟩ = some (.int .i64 l.d1) ∧ ∀ o, w.frozen? ⟨q, o, none⟩ = false := by
  obtain ⟨A, c2, e, hsl⟩ := own_sl h (lvr_three _) (by simp)
  have e2 := e
  simp only [Value.slice.injEq] at e2
  obtain ⟨rfl, rfl, rfl⟩ := e2
  have hi := (List.getElem?_eq_some_iff.1 hz).1
  obtain ⟨ad, e1, _, c0, c1, c2'⟩ := lv_at hsl hi
  rw [List.getElem?_eq_getElem hi, Option.some.injEq] at hz
  rw [hz] at c0 c1 c2'
  simp only [Option.some.injEq] at e1
  subst e1
  have e : (⟨q, 0, none⟩ : Addr).add (i * 3) = ⟨q, i * 3, none⟩ := by unfold Addr.add; split <;> simp_all
  rw [e] at c0 c1 c2'
  exact ⟨c0, c1, c2', own_free h⟩
end Go.Proofs.Ytfcpjkofbejleaa
