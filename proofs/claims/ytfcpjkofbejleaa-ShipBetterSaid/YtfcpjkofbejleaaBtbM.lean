/- Copies of voyages: sills and levels that are changed. -/
import Derived.Test.YtfcpjkofbejleaaXvM
set_option linter.unusedSimpArgs false
set_option linter.unusedVariables false
namespace Go.Proofs.Ytfcpjkofbejleaa
open Go Go.RowKit
/-- The levels of sill i. -/
def HeadIs2 (rs : List (List Value)) (i : Nat) (v : Value) : Prop := ∃ r, rs[i]? = some r ∧ r[2]? = some v
theorem Apt2.set_ {rs : List (List Value)} (ha : Apt2 rs) {i : Nat} {r r' : List Value} (hr : rs[i]? = some r) (h0 : r'[2]? = r[2]?) : Apt2 (rs.set i r') := by
  have hi : i < rs.length := (List.getElem?_eq_some_iff.1 hr).1
  have key : ∀ (j : Nat) (s : List Value), (rs.set i r')[j]? = some s → ∃ s', rs[j]? = some s' ∧ s[2]? = s'[2]? := fun j s hs => by
    by_cases hj : i = j
    · subst hj
      rw [List.getElem?_set_self hi, Option.some.injEq] at hs
      subst hs
      exact ⟨r, hr, h0⟩
    · rw [List.getElem?_set_ne hj] at hs
      exact ⟨s, hs, rfl⟩
  intro a b s t u v hab h1 h2 hu hv
  obtain ⟨s', e1, e2⟩ := key a s h1
  obtain ⟨t', e3, e4⟩ := key b t h2
  exact ha a b s' t' u v hab e1 e3 (e2 ▸ hu) (e4 ▸ hv)
theorem HeadIs2.set_ {rs : List (List Value)} {i j : Nat} {r r' : List Value} {v : Value} (h : HeadIs2 rs j v) (hr : rs[i]? = some r) (h0 : r'[2]? = r[2]?) : HeadIs2 (rs.set i r') j v := by
  have hi : i < rs.length := (List.getElem?_eq_some_iff.1 hr).1
  obtain ⟨s, e1, e2⟩ := h
  by_cases hj : i = j
  · subst hj
    rw [hr, Option.some.injEq] at e1
    subst e1
    exact ⟨r', List.getElem?_set_self hi, h0.trans e2⟩
  · exact ⟨s, by rw [List.getElem?_set_ne hj]; exact e1, e2⟩
section
variable {g : Nat} {V wr x : World} {q : Nat} {li un tr le : Int} {hs : List Hd} {ss : List Si} {ls : List Cg} {hv sv lv : Value} {rs : List (List Value)}
/-- Sills are changed. -/
theorem XV.putS (h : XV g V q li un tr le hs ss ls hv sv lv rs wr) {ss' : List Si} {rs' : List (List Value)} (k : wr.grownBy x sv.ownBlock) (o : x.ownsRow V.heap.size 73 3 sv ss'.length rs'.flatten) (so : SisOwn x V.heap.size rs' ss') (ap : Apt2 rs') : XV g V q li un tr le hs ss' ls hv sv lv rs' x :=
  ⟨h.k.grown k (own_bx h.os h.k (by decide)), h.hq, h.hqg, h.oh.kept k (own_ne h.oh h.os (by decide)), o, so, ap, h.ol.kept k (own_ne h.ol h.os (by decide)), h.ft.own h.os k (Nat.le_refl _) (by decide)⟩
/-- A number of a sill is set. -/
theorem XV.cell {yq n c : Nat} (h : XV g V q li un tr le hs ss ls hv (.slice (some ⟨yq, 0, none⟩) n c) lv rs wr) (hn : ss.length = n) {i : Nat} {b b' : Si} (hb : ss[i]? = some b) (o : Nat) (ho : o < 2) (z : Int) (hg : b'.lv = b.lv) (hrow : ∀ A C, ([.int .i64 b.t0, .int .i64 b.t1, .slice A b.lv.length C] : List Value).set o (.int .i64 z) = [.int .i64 b'.t0, .int .i64 b'.t1, .slice A b'.lv.length C]) :
    ∃ rs', XV g V q li un tr le hs (ss.set i b') ls hv (.slice (some ⟨yq, 0, none⟩) n c) lv rs' (wr.setCell ⟨yq, i * 3 + o, none⟩ (.int .i64 z)) ∧ ∀ j v, HeadIs2 rs j v → HeadIs2 rs' j v := by
  subst hn
  have hib : i < ss.length := (List.getElem?_eq_some_iff.1 hb).1
  have hir : i < rs.length := by rw [h.so.len]; exact hib
  obtain ⟨A, C, hr, og⟩ := h.so.row i rs[i] b (List.getElem?_eq_getElem hir) hb
  have h0 : (rs[i].set o (.int .i64 z))[2]? = rs[i][2]? := List.getElem?_set_ne (by omega)
  have k : wr.grownBy (wr.setCell ⟨yq, i * 3 + o, none⟩ (.int .i64 z)) (Value.slice (some ⟨yq, 0, none⟩) ss.length c).ownBlock := grown_set _ _ _ _
  refine ⟨rs.set i (rs[i].set o (.int .i64 z)), h.putS k ?_ ⟨by simp [h.so.len], fun j r b2 h1 h2 => ?_⟩ (h.ap.set_ (List.getElem?_eq_getElem hir) h0), fun j v hv => hv.set_ (List.getElem?_eq_getElem hir) h0⟩
  · rw [List.length_set, ← flatten_set rs h.so.three i o rs[i] _ (List.getElem?_eq_getElem hir) (by omega)]
    exact own_store h.os (i * 3 + o) _ (by omega)
  · by_cases hj : j = i
    · subst hj
      rw [List.getElem?_set_self hir] at h1
      rw [List.getElem?_set_self hib] at h2
      simp only [Option.some.injEq] at h1 h2
      subst h1 h2
      refine ⟨A, C, by rw [hr]; exact hrow A C, ?_⟩
      rw [hg]
      exact store_far h.os og (by decide)
    · rw [List.getElem?_set_ne (Ne.symm hj)] at h1 h2
      obtain ⟨A2, C2, e2, o2⟩ := h.so.row j r b2 h1 h2
      exact ⟨A2, C2, e2, store_far h.os o2 (by decide)⟩
/-- What can be read of sill i. -/
theorem XV.at_ {yq n c : Nat} (h : XV g V q li un tr le hs ss ls hv (.slice (some ⟨yq, 0, none⟩) n c) lv rs wr) (hn : ss.length = n) {i : Nat} {b : Si} (hb : ss[i]? = some b) :
    ∃ (G : Option Addr) (gc : Nat), wr.cell? ⟨yq, i * 3, none⟩ = some (.int .i64 b.t0) ∧ wr.cell? ⟨yq, i * 3 + 1, none⟩ = some (.int .i64 b.t1) ∧ wr.cell? ⟨yq, i * 3 + 2, none⟩ = some (.slice G b.lv.length gc) ∧ HeadIs2 rs i (.slice G b.lv.length gc) ∧ wr.ownsRow V.heap.size 75 3 (.slice G b.lv.length gc) b.lv.length (b.lv.map lvr).flatten := by
  subst hn
  have hib : i < ss.length := (List.getElem?_eq_some_iff.1 hb).1
  have hir : i < rs.length := by rw [h.so.len]; exact hib
  obtain ⟨A, C, hr, og⟩ := h.so.row i rs[i] b (List.getElem?_eq_getElem hir) hb
  obtain ⟨A', c', e, hs⟩ := own_sl h.os h.so.three h.so.len
  simp only [Value.slice.injEq, true_and] at e
  obtain ⟨rfl, rfl⟩ := e
  have hcells := hs.cells (by omega) h.so.three
  have cell : ∀ o, o < 3 → wr.cell? ⟨yq, i * 3 + o, none⟩ = rs[i][o]? := fun o ho => by
    have h4 : rs[i].length = 3 := h.so.three _ (List.getElem_mem hir)
    have e1 : rs[i][o]? = some rs[i][o] := List.getElem?_eq_getElem (by omega)
    have e2 := flat_at (s := 3) rs h.so.three i rs[i] (List.getElem?_eq_getElem hir) o _ e1
    have e3 := hcells _ _ e2
    rw [e1, ← e3]
    unfold Addr.add
    split <;> simp_all
  have c0 := cell 0 (by omega)
  have c1 := cell 1 (by omega)
  have c2 := cell 2 (by omega)
  rw [hr] at c0 c1 c2
  exact ⟨A, C, c0, c1, c2, ⟨rs[i], List.getElem?_eq_getElem hir, by rw [hr]; rfl⟩, og⟩
/-- A number of a level is set. -/
theorem XV.dep {gq n C : Nat} (h : XV g V q li un tr le hs ss ls hv sv lv rs wr) {i j : Nat} {b : Si} {l l' : Lv} (hH : HeadIs2 rs i (.slice (some ⟨gq, 0, none⟩) n C)) (hb : ss[i]? = some b) (hl : b.lv[j]? = some l) (o : Nat) (ho : o < 3) (z : Int) (hrow : (lvr l).set o (.int .i64 z) = lvr l') :
    XV g V q li un tr le hs (ss.set i ⟨b.t0, b.t1, b.lv.set j l'⟩) ls hv sv lv rs (wr.setCell ⟨gq, j * 3 + o, none⟩ (.int .i64 z)) := by
  have hib : i < ss.length := (List.getElem?_eq_some_iff.1 hb).1
  have hir : i < rs.length := by rw [h.so.len]; exact hib
  obtain ⟨A, C2, hr, og⟩ := h.so.row i rs[i] b (List.getElem?_eq_getElem hir) hb
  obtain ⟨r, e1, e2⟩ := hH
  rw [List.getElem?_eq_getElem hir, Option.some.injEq] at e1
  subst e1
  rw [hr] at e2
  simp only [List.getElem?_cons_succ, List.getElem?_cons_zero, Option.some.injEq, Value.slice.injEq] at e2
  obtain ⟨rfl, rfl, rfl⟩ := e2
  have hjl : j < b.lv.length := (List.getElem?_eq_some_iff.1 hl).1
  have k : wr.grownBy (wr.setCell ⟨gq, j * 3 + o, none⟩ (.int .i64 z)) (Value.slice (some ⟨gq, 0, none⟩) b.lv.length C2).ownBlock := grown_set _ _ _ _
  have og' := own_store og (j * 3 + o) (.int .i64 z) (by omega)
  rw [flatten_set (b.lv.map lvr) (lvr_three _) j o (lvr l) _ (by rw [List.getElem?_map, hl]; rfl) ho, hrow] at og'
  refine ⟨h.k.grown k (own_bx og h.k (by decide)), h.hq, h.hqg, h.oh.kept k (own_ne h.oh og (by decide)), by rw [List.length_set]; exact h.os.kept k (own_ne h.os og (by decide)), ⟨by simp [h.so.len], fun m r b2 h1 h2 => ?_⟩, h.ap, h.ol.kept k (own_ne h.ol og (by decide)), h.ft.own og k (Nat.le_refl _) (by decide)⟩
  by_cases hm : m = i
  · subst hm
    rw [List.getElem?_eq_getElem hir] at h1
    rw [List.getElem?_set_self hib] at h2
    simp only [Option.some.injEq] at h1 h2
    subst h1 h2
    refine ⟨some ⟨gq, 0, none⟩, C2, by rw [hr]; simp, ?_⟩
    dsimp only
    rw [List.length_set, List.map_set]
    exact og'
  · rw [List.getElem?_set_ne (Ne.symm hm)] at h2
    obtain ⟨A2, C3, e3, o3⟩ := h.so.row m r b2 h1 h2
    refine ⟨A2, C3, e3, o3.kept k ?_⟩
    rcases Nat.lt_or_gt_of_ne hm with hlt | hgt
    · have hsep := h.ap m i r rs[i] (.slice A2 b2.lv.length C3) (.slice (some ⟨gq, 0, none⟩) b.lv.length C2) hlt h1 (List.getElem?_eq_getElem hir) (by rw [e3]; rfl) (by rw [hr]; rfl)
      exact hsep
    · have hsep := h.ap i m rs[i] r (.slice (some ⟨gq, 0, none⟩) b.lv.length C2) (.slice A2 b2.lv.length C3) hgt (List.getElem?_eq_getElem hir) h1 (by rw [hr]; rfl) (by rw [e3]; rfl)
      rcases hsep with e | e
      · simp [Value.ownBlock] at e
      · exact .inr fun e' => e e'.symm
end
end Go.Proofs.Ytfcpjkofbejleaa

/-! Mathematics of layer 7: more water, shorter ways. -/
namespace Go.Proofs.Ytfcpjkofbejleaa
open Go Go.RowKit
/-! More water, shorter ways. -/
/-- A level that is deeper. -/
structure DpL (l l' : Lv) : Prop where
  fr : l'.fr = l.fr
  d0 : l.d0 ≤ l'.d0
  d1 : l.d1 ≤ l'.d1
  d01 : l'.d0 ≤ l'.d1
  up : l'.d1 ≤ l.d1 + 4
/-- A sill with shorter ways, and more water on the levels before k. -/
structure DpP (s s' : Si) (k : Nat) : Prop where
  t0 : 0 ≤ s'.t0 ∧ s'.t0 ≤ s.t0
  t1 : s'.t0 ≤ s'.t1 ∧ s'.t1 ≤ s.t1
  len : s'.lv.length = s.lv.length
  lv : ∀ (j : Nat) (l : Lv), s.lv[j]? = some l → ∃ l', s'.lv[j]? = some l' ∧ (j < k → DpL l l') ∧ (k ≤ j → l' = l)
structure DpSs (ss ss' : List Si) (i : Nat) : Prop where
  len : ss'.length = ss.length
  row : ∀ (j : Nat) (s : Si), ss[j]? = some s → ∃ s', ss'[j]? = some s' ∧ (j < i → DpP s s' s.lv.length) ∧ (i ≤ j → s' = s)
theorem DpSs.start (ss : List Si) : DpSs ss ss 0 := ⟨rfl, fun j s h => ⟨s, h, fun h => by omega, fun _ => rfl⟩⟩
theorem DpSs.step {ss ss' : List Si} {i : Nat} {s s' : Si} (h : DpSs ss ss' i) (hs : ss[i]? = some s) (hp : DpP s s' s.lv.length) : DpSs ss (ss'.set i s') (i + 1) := by
  have hi : i < ss'.length := by rw [h.len]; exact (List.getElem?_eq_some_iff.1 hs).1
  refine ⟨by rw [List.length_set]; exact h.len, fun j x hx => ?_⟩
  by_cases e : i = j
  · subst e
    rw [hs, Option.some.injEq] at hx
    subst hx
    exact ⟨s', List.getElem?_set_self hi, fun _ => hp, fun h => by omega⟩
  · rw [List.getElem?_set_ne e]
    obtain ⟨y, h1, h2, h3⟩ := h.row j x hx
    exact ⟨y, h1, fun hj => h2 (by omega), fun hj => h3 (by omega)⟩
theorem DpP.start {s : Si} {a b : Int} (h : 0 ≤ a) (h2 : a ≤ s.t0) (h3 : s.t0 ≤ b) (h4 : b ≤ s.t1) : DpP s ⟨a, b, s.lv⟩ 0 := ⟨⟨h, h2⟩, ⟨by dsimp only; omega, h4⟩, rfl, fun j l hl => ⟨l, hl, fun h => by omega, fun _ => rfl⟩⟩
theorem DpP.step {s s' : Si} {k : Nat} {l l' : Lv} (h : DpP s s' k) (hl : s.lv[k]? = some l) (hp : DpL l l') : DpP s ⟨s'.t0, s'.t1, s'.lv.set k l'⟩ (k + 1) := by
  have hk : k < s'.lv.length := by rw [h.len]; exact (List.getElem?_eq_some_iff.1 hl).1
  refine ⟨h.t0, h.t1, by dsimp only; rw [List.length_set]; exact h.len, fun j x hx => ?_⟩
  dsimp only
  by_cases e : k = j
  · subst e
    rw [hl, Option.some.injEq] at hx
    subst hx
    exact ⟨l', List.getElem?_set_self hk, fun _ => hp, fun h => by omega⟩
  · rw [List.getElem?_set_ne e]
    obtain ⟨y, h1, h2, h3⟩ := h.lv j x hx
    exact ⟨y, h1, fun hj => h2 (by omega), fun hj => h3 (by omega)⟩
theorem lvl_cells {w : World} {B q n c : Nat} {lv : List Lv} (h : w.ownsRow B 75 3 (.slice (some ⟨q, 0, none⟩) n c) lv.length (lv.map lvr).flatten) {i : Nat} {l : Lv} (hz : lv[i]? = some l) :
    w.cell? ⟨q, i * 3, none⟩ = some (.int .i64 l.fr) ∧ w.cell? ⟨q, i * 3 + 1, none⟩ = some (.int .i64 l.d0) ∧ w.cell? ⟨q, i * 3 + 2, none⟩ = some (.int .i64 l.d1) ∧ ∀ o, w.frozen? ⟨q, o, none⟩ = false := by
  obtain ⟨A, c2, e, hsl⟩ := own_sl h (lvr_three _) (by simp)
  have e2 := e
  simp only [Value.slice.injEq] at e2
  obtain ⟨rfl, rfl, rfl⟩ := e2
  have hi := (List.getElem?_eq_some_iff.1 hz).1
  obtain ⟨ad, e1, _, c0, c1, c2'⟩ := lv_at hsl hi
  rw [List.getElem?_eq_getElem hi, Option.some.injEq] at hz
  rw [hz] at c0 c1 c2'
  simp only [Option.some.injEq] at e1
  subst e1
  have e : (⟨q, 0, none⟩ : Addr).add (i * 3) = ⟨q, i * 3, none⟩ := by unfold Addr.add; split <;> simp_all
  rw [e] at c0 c1 c2'
  exact ⟨c0, c1, c2', own_free h⟩
end Go.Proofs.Ytfcpjkofbejleaa

/-! Mathematics of layer 7: what is known better (for ShipBetter). -/
namespace Go.Proofs.Ytfcpjkofbejleaa
open Go Go.RowKit
/-! What is known better. -/
/-- A lot whose tonnes are known better. -/
structure TgC (c c' : Cg) : Prop where
  t0 : c.t0 ≤ c'.t0
  t01 : c'.t0 ≤ c'.t1
  t1 : c'.t1 ≤ c.t1
  wo : c'.wo = c.wo
theorem tg_sum {R : Cg → Cg → Prop} {f g : Cg → Int → Int} : ∀ {ls ls' : List Cg} {s : List Int}, ls'.length = ls.length → (∀ (i : Nat) (c c' : Cg), ls[i]? = some c → ls'[i]? = some c' → R c c') → (∀ (c c' : Cg) (h : Int), R c c' → h ∈ s → h ≠ -1 → f c h ≤ g c' h) →
    ((abd ls s).map fun p => f p.1 p.2).sum ≤ ((abd ls' s).map fun p => g p.1 p.2).sum
  | [], ls', s, h, _, _ => by
    obtain rfl := List.eq_nil_of_length_eq_zero h
    simp [abd]
  | c :: ls, [], s, h, _, _ => by simp at h
  | c :: ls, c' :: ls', [], h, _, _ => by simp [abd]
  | c :: ls, c' :: ls', x :: s, h, hR, hf => by
    have ih := tg_sum (f := f) (g := g) (ls := ls) (ls' := ls') (s := s) (by simpa using h) (fun i a b ha hb => hR (i + 1) a b (by simpa using ha) (by simpa using hb)) (fun a b y hab hy => hf a b y hab (by simp [hy]))
    have h0 := hR 0 c c' rfl rfl
    unfold abd at ih ⊢
    simp only [List.zip_cons_cons]
    by_cases e : x = -1
    · rw [List.filter_cons_of_neg (a := (c, x)) (by simpa using e), List.filter_cons_of_neg (a := (c', x)) (by simpa using e)]
      exact ih
    · rw [List.filter_cons_of_pos (a := (c, x)) (by simpa using e), List.filter_cons_of_pos (a := (c', x)) (by simpa using e)]
      have := hf c c' x h0 (by simp) e
      simp only [List.map_cons, List.sum_cons]
      omega
/-- Lots that are known better. -/
def TgL (ls ls' : List Cg) : Prop := ls'.length = ls.length ∧ ∀ (i : Nat) (c c' : Cg), ls[i]? = some c → ls'[i]? = some c' → TgC c c'
theorem tg_sum2 {R : Cg → Cg → Prop} {f g : Cg → Int → Int} {ls ls' : List Cg} {s : List Int} (h : ls'.length = ls.length) (hR : ∀ (i : Nat) (c c' : Cg), ls[i]? = some c → ls'[i]? = some c' → R c c') (hf : ∀ (c c' : Cg) (h : Int), R c c' → h ∈ s → h ≠ -1 → g c' h ≤ f c h) :
    ((abd ls' s).map fun p => g p.1 p.2).sum ≤ ((abd ls s).map fun p => f p.1 p.2).sum :=
  tg_sum (R := fun a b => R b a) h.symm (fun i c c' ha hb => hR i c' c hb ha) (fun c c' y hab hy hn => hf c' c y hab hy hn)
theorem tg_deep {v : Vg} {ss' : List Si} {ls' : List Cg} (h : TgL v.ls ls') {s : List Int} (k : StOk v s) :
    (deepB v (abd v.ls s) true ≤ deepB ⟨v.li, v.un, v.tr, v.le, v.hs, ss', ls'⟩ (abd ls' s) true ∧ deepB ⟨v.li, v.un, v.tr, v.le, v.hs, ss', ls'⟩ (abd ls' s) false ≤ deepB v (abd v.ls s) false) ∧
    (deepS v (abd v.ls s) true ≤ deepS ⟨v.li, v.un, v.tr, v.le, v.hs, ss', ls'⟩ (abd ls' s) true ∧ deepS ⟨v.li, v.un, v.tr, v.le, v.hs, ss', ls'⟩ (abd ls' s) false ≤ deepS v (abd v.ls s) false) := by
  have hh : ∀ y ∈ s, y ≠ -1 → (hd v.hs y).Ok := fun y hy hn => st_hd k hy (by have := k.inh y hy; omega)
  have a := tg_sum (R := TgC) (f := fun c y => ton true c * (hd v.hs y).bw) (g := fun c y => ton true c * (hd v.hs y).bw) h.1 h.2 (fun c c' y r hy hn => Int.mul_le_mul_of_nonneg_right r.t0 (hh y hy hn).bw.1)
  have b := tg_sum2 (R := TgC) (f := fun c y => ton false c * (hd v.hs y).bw) (g := fun c y => ton false c * (hd v.hs y).bw) h.1 h.2 (fun c c' y r hy hn => Int.mul_le_mul_of_nonneg_right r.t1 (hh y hy hn).bw.1)
  have c := tg_sum (R := TgC) (f := fun c y => ton true c * (hd v.hs y).st) (g := fun c y => ton true c * (hd v.hs y).st) h.1 h.2 (fun c c' y r hy hn => Int.mul_le_mul_of_nonneg_right r.t0 (hh y hy hn).st.1)
  have d := tg_sum2 (R := TgC) (f := fun c y => ton false c * (hd v.hs y).st) (g := fun c y => ton false c * (hd v.hs y).st) h.1 h.2 (fun c c' y r hy hn => Int.mul_le_mul_of_nonneg_right r.t1 (hh y hy hn).st.1)
  unfold deepB deepS
  dsimp only at a b c d ⊢
  omega
theorem tms_part {a b c d n : Int} (h1 : a ≤ c) (h2 : d ≤ b) : (tms a b n).1 ≤ (tms c d n).1 ∧ (tms c d n).2 ≤ (tms a b n).2 := by
  unfold tms
  split
  · exact ⟨Int.mul_le_mul_of_nonpos_right h2 (by omega), Int.mul_le_mul_of_nonpos_right h1 (by omega)⟩
  · exact ⟨Int.mul_le_mul_of_nonneg_right h1 (by omega), Int.mul_le_mul_of_nonneg_right h2 (by omega)⟩
theorem tg_tilt {hs : List Hd} {ls ls' : List Cg} (h : TgL ls ls') (s : List Int) : (tiltP hs (abd ls s)).1 ≤ (tiltP hs (abd ls' s)).1 ∧ (tiltP hs (abd ls' s)).2 ≤ (tiltP hs (abd ls s)).2 := by
  have a := tg_sum (R := TgC) (s := s) (f := fun c y => (tms c.t0 c.t1 ((hd hs y).bw - (hd hs y).st)).1) (g := fun c y => (tms c.t0 c.t1 ((hd hs y).bw - (hd hs y).st)).1) h.1 h.2 (fun c c' y r _ _ => (tms_part r.t0 r.t1).1)
  have b := tg_sum2 (R := TgC) (s := s) (f := fun c y => (tms c.t0 c.t1 ((hd hs y).bw - (hd hs y).st)).2) (g := fun c y => (tms c.t0 c.t1 ((hd hs y).bw - (hd hs y).st)).2) h.1 h.2 (fun c c' y r _ _ => (tms_part r.t0 r.t1).2)
  exact ⟨a, b⟩
/-- A level that is known better. -/
structure TgV (l l' : Lv) : Prop where
  fr : l'.fr = l.fr
  d0 : l.d0 ≤ l'.d0
  d01 : l'.d0 ≤ l'.d1
  d1 : l'.d1 ≤ l.d1
/-- A sill that is known better. -/
structure TgS (s s' : Si) : Prop where
  t0 : s.t0 ≤ s'.t0
  t01 : s'.t0 ≤ s'.t1
  t1 : s'.t1 ≤ s.t1
  len : s'.lv.length = s.lv.length
  lv : ∀ (j : Nat) (l l' : Lv), s.lv[j]? = some l → s'.lv[j]? = some l' → TgV l l'
theorem tg_bet : ∀ {ss ss' : List Si}, ss'.length = ss.length → (∀ (j : Nat) (s s' : Si), ss[j]? = some s → ss'[j]? = some s' → TgS s s') → Bet (lkS ss true) (lkS ss' true) ∧ Bet (lkS ss' false) (lkS ss false)
  | [], ss', h, _ => by
    obtain rfl := List.eq_nil_of_length_eq_zero h
    exact ⟨.nil, .nil⟩
  | s :: ss, [], h, _ => by simp at h
  | s :: ss, s' :: ss', h, hr => by
    obtain ⟨i1, i2⟩ := tg_bet (ss := ss) (ss' := ss') (by simpa using h) (fun j a b ha hb => hr (j + 1) a b (by simpa using ha) (by simpa using hb))
    have k := hr 0 s s' rfl rfl
    have key : ∀ (g : Bool) (i : Nat) (x y : Int × Int), (lvL s.lv g)[i]? = some x → (lvL s'.lv g)[i]? = some y → x.1 = y.1 ∧ (if g then y.2 ≤ x.2 else x.2 ≤ y.2) := fun g i x y hx hy => by
      unfold lvL at hx hy
      rw [List.getElem?_map] at hx hy
      cases hl : s.lv[i]? with
      | none => rw [hl] at hx; cases hx
      | some l =>
        cases hm : s'.lv[i]? with
        | none => rw [hm] at hy; cases hy
        | some m =>
          rw [hl] at hx
          rw [hm] at hy
          simp only [Option.map_some, Option.some.injEq] at hx hy
          subst hx hy
          have t := k.lv i l m hl hm
          have := t.fr; have := t.d0; have := t.d1
          cases g <;> simp <;> omega
    exact ⟨.cons k.t0 (by simp [lvL, k.len]) (fun i x y hx hy => by have := key true i x y hx hy; simpa using this) i1,
      .cons k.t1 (by simp [lvL, k.len]) (fun i x y hx hy => by have := key false i y x hy hx; exact ⟨this.1.symm, by simpa using this.2⟩) i2⟩
/-- What is known better is passed within what was said. -/
theorem tg_sal {v : Vg} {ss' : List Si} {ls' : List Cg} {s : List Int} (k : StOk v s) (hl : TgL v.ls ls') (hb : Bet (lkS v.ss true) (lkS ss' true) ∧ Bet (lkS ss' false) (lkS v.ss false)) :
    ((salM ⟨v.li, v.un, v.tr, v.le, v.hs, ss', ls'⟩ (abd ls' s) true).length ≤ (salM v (abd v.ls s) true).length ∧ ∀ (i : Nat) (m : Int), (salM ⟨v.li, v.un, v.tr, v.le, v.hs, ss', ls'⟩ (abd ls' s) true)[i]? = some m → ∃ m', (salM v (abd v.ls s) true)[i]? = some m' ∧ m' ≤ m) ∧
    ((salM v (abd v.ls s) false).length ≤ (salM ⟨v.li, v.un, v.tr, v.le, v.hs, ss', ls'⟩ (abd ls' s) false).length ∧ ∀ (i : Nat) (m : Int), (salM v (abd v.ls s) false)[i]? = some m → ∃ m', (salM ⟨v.li, v.un, v.tr, v.le, v.hs, ss', ls'⟩ (abd ls' s) false)[i]? = some m' ∧ m' ≤ m) := by
  obtain ⟨⟨d1, d2⟩, d3, d4⟩ := tg_deep (ss' := ss') hl k
  unfold salM
  rw [slM_T, slM_T, slM_T, slM_T]
  unfold needsM
  dsimp only
  exact ⟨sal_mono (bet_sooner (by omega) hb.1) (Int.le_refl _), sal_mono (bet_sooner (by omega) hb.2) (Int.le_refl _)⟩
end Go.Proofs.Ytfcpjkofbejleaa

/-! Mathematics of layer 7: what is known better; lots of a voyage of one's own. -/
namespace Go.Proofs.Ytfcpjkofbejleaa
open Go Go.RowKit
/-! What is known better: voyages are valid, verdicts stay. -/
theorem TgV.refl {l : Lv} (h : l.d0 ≤ l.d1) : TgV l l := ⟨rfl, Int.le_refl _, h, Int.le_refl _⟩
theorem TgV.trans {a b c : Lv} (h : TgV a b) (k : TgV b c) : TgV a c := ⟨k.fr.trans h.fr, Int.le_trans h.d0 k.d0, k.d01, Int.le_trans k.d1 h.d1⟩
theorem TgS.refl {s : Si} (h : s.Ok) : TgS s s := ⟨Int.le_refl _, h.t01, Int.le_refl _, rfl, fun j l l' h1 h2 => by
  rw [h1, Option.some.injEq] at h2
  subst h2
  exact .refl (h.lv l (List.mem_of_getElem? h1)).d01⟩
theorem TgS.trans {a b c : Si} (h : TgS a b) (k : TgS b c) : TgS a c := ⟨Int.le_trans h.t0 k.t0, k.t01, Int.le_trans k.t1 h.t1, k.len.trans h.len, fun j x z hx hz => by
  have hj : j < b.lv.length := by rw [h.len]; exact (List.getElem?_eq_some_iff.1 hx).1
  exact (h.lv j x _ hx (List.getElem?_eq_getElem hj)).trans (k.lv j _ z (List.getElem?_eq_getElem hj) hz)⟩
/-- Sills that are known better. -/
def TgSs (ss ss' : List Si) : Prop := ss'.length = ss.length ∧ ∀ (j : Nat) (s s' : Si), ss[j]? = some s → ss'[j]? = some s' → TgS s s'
theorem TgSs.start {ss : List Si} (h : ∀ s ∈ ss, s.Ok) : TgSs ss ss := ⟨rfl, fun j s s' h1 h2 => by
  rw [h1, Option.some.injEq] at h2
  subst h2
  exact .refl (h s (List.mem_of_getElem? h1))⟩
theorem TgSs.step {ss ss' : List Si} {i : Nat} {b b' : Si} (h : TgSs ss ss') (hb : ss'[i]? = some b) (k : TgS b b') : TgSs ss (ss'.set i b') := by
  have hi : i < ss'.length := (List.getElem?_eq_some_iff.1 hb).1
  refine ⟨by rw [List.length_set]; exact h.1, fun j s s' h1 h2 => ?_⟩
  by_cases e : i = j
  · subst e
    rw [List.getElem?_set_self hi, Option.some.injEq] at h2
    subst h2
    exact (h.2 i s b h1 hb).trans k
  · rw [List.getElem?_set_ne e] at h2
    exact h.2 j s s' h1 h2
theorem TgS.start {s : Si} {a b : Int} (ho : ∀ l ∈ s.lv, l.d0 ≤ l.d1) (h1 : s.t0 ≤ a) (h2 : a ≤ b) (h3 : b ≤ s.t1) : TgS s ⟨a, b, s.lv⟩ := ⟨h1, h2, h3, rfl, fun j l l' h4 h5 => by
  rw [h4, Option.some.injEq] at h5
  subst h5
  exact .refl (ho l (List.mem_of_getElem? h4))⟩
theorem TgS.step {s s' : Si} {k : Nat} {l l' : Lv} (h : TgS s s') (hl : s'.lv[k]? = some l) (hp : TgV l l') : TgS s ⟨s'.t0, s'.t1, s'.lv.set k l'⟩ := by
  have hk : k < s'.lv.length := (List.getElem?_eq_some_iff.1 hl).1
  refine ⟨h.t0, h.t01, h.t1, by dsimp only; rw [List.length_set]; exact h.len, fun j x y hx hy => ?_⟩
  dsimp only at hy
  by_cases e : k = j
  · subst e
    rw [List.getElem?_set_self hk, Option.some.injEq] at hy
    subst hy
    exact (h.lv k x l hx hl).trans hp
  · rw [List.getElem?_set_ne e] at hy
    exact h.lv j x y hx hy
theorem TgL.start {ls : List Cg} (h : ∀ c ∈ ls, c.Ok) : TgL ls ls := ⟨rfl, fun j s s' h1 h2 => by
  rw [h1, Option.some.injEq] at h2
  subst h2
  have := (h s (List.mem_of_getElem? h1)).t01
  exact ⟨Int.le_refl _, this, Int.le_refl _, rfl⟩⟩
theorem TgL.step {ls ls' : List Cg} {i : Nat} {b : Cg} {a c : Int} (h : TgL ls ls') (hb : ls'[i]? = some b) (h1 : b.t0 ≤ a) (h2 : a ≤ c) (h3 : c ≤ b.t1) : TgL ls (ls'.set i ⟨a, c, b.wo⟩) := by
  have hi : i < ls'.length := (List.getElem?_eq_some_iff.1 hb).1
  refine ⟨by rw [List.length_set]; exact h.1, fun j s s' h4 h5 => ?_⟩
  by_cases e : i = j
  · subst e
    rw [List.getElem?_set_self hi, Option.some.injEq] at h5
    subst h5
    have k := h.2 i s b h4 hb
    exact ⟨Int.le_trans k.t0 h1, h2, Int.le_trans h3 k.t1, k.wo⟩
  · rw [List.getElem?_set_ne e] at h5
    exact h.2 j s s' h4 h5
theorem TgL.ok {ls ls' : List Cg} (h : TgL ls ls') (ho : ∀ c ∈ ls, c.Ok) {i : Nat} {b : Cg} (hb : ls'[i]? = some b) : b.Ok := by
  have hi : i < ls.length := by rw [← h.1]; exact (List.getElem?_eq_some_iff.1 hb).1
  have k := h.2 i _ b (List.getElem?_eq_getElem hi) hb
  have o := ho _ (List.getElem_mem hi)
  have := k.t0; have := k.t01; have := k.t1; have := o.t0; have := o.t1
  exact ⟨by omega, by omega, by omega, by rw [k.wo]; exact o.wo⟩
theorem tg_fr {s s' : Si} (h : TgS s s') : s'.lv.map Lv.fr = s.lv.map Lv.fr := by
  refine List.ext_getElem? fun j => ?_
  rw [List.getElem?_map, List.getElem?_map]
  cases hl : s.lv[j]? with
  | none =>
    have hj : s.lv.length ≤ j := List.getElem?_eq_none_iff.1 hl
    rw [List.getElem?_eq_none (by rw [h.len]; exact hj)]
  | some l =>
    have hj : j < s'.lv.length := by rw [h.len]; exact (List.getElem?_eq_some_iff.1 hl).1
    rw [List.getElem?_eq_getElem hj]
    simp only [Option.map_some]
    rw [(h.lv j l _ hl (List.getElem?_eq_getElem hj)).fr]
theorem TgS.ok {s s' : Si} (h : TgS s s') (ho : s.Ok) (h0 : ∀ l, s.lv[0]? = some l → l.fr = 0) : s'.Ok ∧ ∀ l, s'.lv[0]? = some l → l.fr = 0 := by
  have hf := tg_fr h
  have hat : ∀ (j : Nat) (l' : Lv), s'.lv[j]? = some l' → ∃ l, s.lv[j]? = some l ∧ TgV l l' := fun j l' hl' => by
    have hj : j < s.lv.length := by rw [← h.len]; exact (List.getElem?_eq_some_iff.1 hl').1
    exact ⟨_, List.getElem?_eq_getElem hj, h.lv j _ l' (List.getElem?_eq_getElem hj) hl'⟩
  refine ⟨⟨by have := h.t0; have := ho.t0; omega, h.t01, by have := h.t1; have := ho.t1; omega, by rw [h.len]; exact ho.l1, by rw [h.len]; exact ho.l6, ?_, fun l' hl' => ?_⟩, fun l' hl' => ?_⟩
  · have e : ∀ L : List Lv, (L.Pairwise fun x y => x.fr < y.fr) ↔ (L.map Lv.fr).Pairwise (· < ·) := fun L => by rw [List.pairwise_map]
    rw [e, hf, ← e]
    exact ho.asc
  · obtain ⟨j, hj⟩ := List.getElem?_of_mem hl'
    obtain ⟨l, hl, hp⟩ := hat j l' hj
    have o := ho.lv l (List.mem_of_getElem? hl)
    have := hp.fr; have := hp.d0; have := hp.d01; have := hp.d1; have := o.fr; have := o.d0; have := o.d1
    exact ⟨by omega, by omega, by omega, by omega⟩
  · obtain ⟨l, hl, hp⟩ := hat 0 l' hl'
    rw [hp.fr]
    exact h0 l hl
theorem TgSs.at_ {ss ss' : List Si} (h : TgSs ss ss') {i : Nat} {b : Si} (hb : ss'[i]? = some b) : ∃ s, s ∈ ss ∧ TgS s b := by
  have hi : i < ss.length := by rw [← h.1]; exact (List.getElem?_eq_some_iff.1 hb).1
  exact ⟨_, List.getElem_mem hi, h.2 i _ b (List.getElem?_eq_getElem hi) hb⟩
theorem tg_ok {v : Vg} {ss' : List Si} {ls' : List Cg} (ho : v.Ok) (hl : TgL v.ls ls') (hs : TgSs v.ss ss') (h0 : ∀ s ∈ v.ss, ∀ l, s.lv[0]? = some l → l.fr = 0) : ckV ⟨v.li, v.un, v.tr, v.le, v.hs, ss', ls'⟩ = 0 := by
  have key : ∀ s' ∈ ss', s'.Ok ∧ ∀ l, s'.lv[0]? = some l → l.fr = 0 := fun s' hs' => by
    obtain ⟨j, hj⟩ := List.getElem?_of_mem hs'
    obtain ⟨s, hm, hp⟩ := hs.at_ hj
    exact hp.ok (ho.ss s hm) (h0 s hm)
  exact ok_ck ⟨ho.li, ho.un, ho.tr, ho.le, ho.h1, ho.h3, ho.hs, by dsimp only; rw [hs.1]; exact ho.s4, fun s hs => (key s hs).1, by dsimp only; rw [hl.1]; exact ho.l6, fun c hc => by
    obtain ⟨j, hj⟩ := List.getElem?_of_mem hc
    exact hl.ok ho.ls hj⟩ fun s hs => (key s hs).2
theorem tg_st {v : Vg} {ss' : List Si} {ls' : List Cg} {s : List Int} (h : TgL v.ls ls') (hv : ckV ⟨v.li, v.un, v.tr, v.le, v.hs, ss', ls'⟩ = 0) (k : ckSt v s = 0) : ckSt ⟨v.li, v.un, v.tr, v.le, v.hs, ss', ls'⟩ s = 0 := by
  have k := ckSt_ok k
  have hr : roomOk v.hs (abd ls' s) = true := by
    rw [roomOk_iff]
    intro n hn
    have a := roomOk_iff.1 k.room n hn
    have b := tg_sum2 (R := TgC) (s := s) (f := fun c y => if y = (n : Int) then c.t1 else 0) (g := fun c y => if y = (n : Int) then c.t1 else 0) h.1 h.2 (fun c c' y r _ _ => by
      try dsimp only
      have := r.t1
      split <;> omega)
    rw [sumH_eq] at a ⊢
    exact Int.le_trans b a
  unfold ckSt
  rw [if_neg (by rw [hv]; simp), if_neg (by dsimp only; rw [h.1, k.len]; simp), if_neg (by dsimp only; rw [inHb_iff.2 k.inh]; simp), if_neg (by dsimp only; rw [hr]; simp)]
theorem tg_verd {n a b a' b' : Nat} (h1 : a' ≤ a) (h2 : b ≤ b') (h3 : b' ≤ a') (h4 : a ≤ n) (h : verdM n a b ≠ 3) : verdM n a' b' = verdM n a b := by
  unfold verdM at h ⊢
  split at h
  · rw [if_pos (by omega), if_pos (by omega)]
  · split at h
    · rw [if_neg (by omega), if_pos (by omega), if_neg (by omega), if_pos (by omega)]
    · exact absurd rfl h
/-- Ranges that lie within others, one by one. -/
def Within (L O : List (Int × Int)) : Prop := L.length ≤ O.length ∧ ∀ (i : Nat) (x y : Int × Int), L[i]? = some x → O[i]? = some y → x.1 ≤ y.1 ∧ y.2 ≤ x.2
theorem within_of {a b a' b' : List Int} (hb : b.length ≤ a.length) (hb' : b'.length ≤ a'.length)
    (ha : ∀ (i : Nat) (m : Int), a'[i]? = some m → ∃ m', a[i]? = some m' ∧ m' ≤ m) (hb2 : b.length ≤ b'.length ∧ ∀ (i : Nat) (m : Int), b[i]? = some m → ∃ m', b'[i]? = some m' ∧ m' ≤ m) : Within (a.zip b) (a'.zip b') := by
  refine ⟨by simp; omega, fun i x y hx hy => ?_⟩
  rw [List.getElem?_zip_eq_some] at hx hy
  obtain ⟨m, h1, h2⟩ := ha i _ hy.1
  obtain ⟨m', h3, h4⟩ := hb2.2 i _ hx.2
  rw [hx.1, Option.some.injEq] at h1
  rw [hy.2, Option.some.injEq] at h3
  omega
theorem tg_lvl {v : Vg} {ss' : List Si} {ls' : List Cg} {a b : Int × Int} (h1 : a.1 ≤ b.1) (h2 : b.2 ≤ a.2) (h : lvlOk v a = true) : lvlOk ⟨v.li, v.un, v.tr, v.le, v.hs, ss', ls'⟩ b = true := by
  unfold lvlOk at h ⊢
  simp only [decide_eq_true_eq] at h ⊢
  omega
theorem tg_end {v : Vg} {ss' : List Si} {ls' : List Cg} {s : List Int} (hst : ckSt v s = 0) (hst2 : ckSt ⟨v.li, v.un, v.tr, v.le, v.hs, ss', ls'⟩ s = 0) (hl : TgL v.ls ls') (hs : TgSs v.ss ss') :
    (verdM v.ss.length (salM v (abd v.ls s) true).length (salM v (abd v.ls s) false).length ≠ 3 → verdM ss'.length (salM ⟨v.li, v.un, v.tr, v.le, v.hs, ss', ls'⟩ (abd ls' s) true).length (salM ⟨v.li, v.un, v.tr, v.le, v.hs, ss', ls'⟩ (abd ls' s) false).length = verdM v.ss.length (salM v (abd v.ls s) true).length (salM v (abd v.ls s) false).length) ∧
    Within (overM v (abd v.ls s)) (overM ⟨v.li, v.un, v.tr, v.le, v.hs, ss', ls'⟩ (abd ls' s)) := by
  have k := ckSt_ok hst
  have k2 := ckSt_ok hst2
  have l1 := sal_luck k.ok (inH_held k.inh)
  have l2 := sal_luck k2.ok (inH_held k2.inh)
  dsimp only at l2
  obtain ⟨⟨t1, t2⟩, f1, f2⟩ := tg_sal (ss' := ss') k hl (tg_bet hs.1 hs.2)
  have hn := salM_len v (abd v.ls s) true
  refine ⟨fun h => ?_, ?_⟩
  · rw [hs.1]
    exact tg_verd t1 f1 l2.1 hn h
  · unfold overM
    exact within_of l1.1 l2.1 t2 ⟨f1, f2⟩
section
variable {g : Nat} {V wr x : World} {q : Nat} {li un tr le : Int} {hs : List Hd} {ss : List Si} {ls : List Cg} {hv sv lv : Value} {rs : List (List Value)}
/-- A number of a lot is set. -/
theorem XV.lot {yq n c : Nat} (h : XV g V q li un tr le hs ss ls hv sv (.slice (some ⟨yq, 0, none⟩) n c) rs wr) (hn : ls.length = n) {i : Nat} {b b' : Cg} (hb : ls[i]? = some b) (o : Nat) (ho : o < 3) (z : Int) (hrow : (cgr b).set o (.int .i64 z) = cgr b') :
    XV g V q li un tr le hs ss (ls.set i b') hv sv (.slice (some ⟨yq, 0, none⟩) n c) rs (wr.setCell ⟨yq, i * 3 + o, none⟩ (.int .i64 z)) := by
  subst hn
  have hib := (List.getElem?_eq_some_iff.1 hb).1
  have k : wr.grownBy (wr.setCell ⟨yq, i * 3 + o, none⟩ (.int .i64 z)) (Value.slice (some ⟨yq, 0, none⟩) ls.length c).ownBlock := grown_set _ _ _ _
  have o1 := own_store h.ol (i * 3 + o) (.int .i64 z) (by omega)
  rw [flatten_set (ls.map cgr) (cgr_three _) i o (cgr b) _ (by rw [List.getElem?_map, hb]; rfl) ho, hrow] at o1
  refine ⟨h.k.grown k (own_bx h.ol h.k (by decide)), h.hq, h.hqg, h.oh.kept k (own_ne h.oh h.ol (by decide)), h.os.kept k (own_ne h.os h.ol (by decide)), h.so.own h.ol k (by decide), h.ap, ?_, h.ft.own h.ol k (Nat.le_refl _) (by decide)⟩
  rw [List.length_set, List.map_set]
  exact o1
end
theorem lot_cells {w : World} {B q n c : Nat} {L : List Cg} (h : w.ownsRow B 70 3 (.slice (some ⟨q, 0, none⟩) n c) L.length (L.map cgr).flatten) {i : Nat} {l : Cg} (hz : L[i]? = some l) :
    w.cell? ⟨q, i * 3, none⟩ = some (.int .i64 l.t0) ∧ w.cell? ⟨q, i * 3 + 1, none⟩ = some (.int .i64 l.t1) ∧ w.cell? ⟨q, i * 3 + 2, none⟩ = some (.int .i64 l.wo) ∧ ∀ o, w.frozen? ⟨q, o, none⟩ = false := by
  obtain ⟨A, c2, e, hsl⟩ := own_sl h (cgr_three _) (by simp)
  have e2 := e
  simp only [Value.slice.injEq] at e2
  obtain ⟨rfl, rfl, rfl⟩ := e2
  have hi := (List.getElem?_eq_some_iff.1 hz).1
  obtain ⟨ad, e1, _, c0, c1, c2'⟩ := cg_at hsl hi
  rw [List.getElem?_eq_getElem hi, Option.some.injEq] at hz
  rw [hz] at c0 c1 c2'
  simp only [Option.some.injEq] at e1
  subst e1
  have e : (⟨q, 0, none⟩ : Addr).add (i * 3) = ⟨q, i * 3, none⟩ := by unfold Addr.add; split <;> simp_all
  rw [e] at c0 c1 c2'
  exact ⟨c0, c1, c2', own_free h⟩
end Go.Proofs.Ytfcpjkofbejleaa
