/- Mathematics of layer 7: voyages with few truths. -/
import Derived.Test.YtfcpjkofbejleaaYco
import Derived.Test.YtfcpjkofbejleaaBtbM
set_option linter.unusedSimpArgs false
set_option linter.unusedVariables false
namespace Go.Proofs.Ytfcpjkofbejleaa
open Go Go.RowKit
/-! Voyages with few truths. -/
def fwC (c : Cg) : Cg := ⟨c.t0, if c.t0 + 2 < c.t1 then c.t0 + 2 else c.t1, c.wo⟩
def fwV (l : Lv) : Lv := ⟨l.fr, l.d0, if l.d0 + 1 < l.d1 then l.d0 + 1 else l.d1⟩
def fwS (s : Si) : Si := ⟨s.t0, if s.t0 + 2 < s.t1 then s.t0 + 2 else s.t1, (s.lv.take 2).map fwV⟩
/-- The first i of a list are changed. -/
def Chg {α : Type} (f : α → α) (L L' : List α) (i : Nat) : Prop := L' = (L.take i).map f ++ L.drop i
theorem Chg.start {α : Type} (f : α → α) (L : List α) : Chg f L L 0 := by simp [Chg]
theorem Chg.len {α : Type} {f : α → α} {L L' : List α} {i : Nat} (h : Chg f L L' i) : L'.length = L.length := by
  unfold Chg at h
  subst h
  simp
  omega
theorem Chg.get {α : Type} {f : α → α} {L L' : List α} {i : Nat} (h : Chg f L L' i) {x : α} (hx : L[i]? = some x) : L'[i]? = some x := by
  unfold Chg at h
  subst h
  have hi := (List.getElem?_eq_some_iff.1 hx).1
  rw [List.getElem?_append_right (by simp; omega)]
  simp only [List.length_map, List.length_take, List.getElem?_drop]
  rw [← hx]
  congr 1
  omega
theorem Chg.step {α : Type} {f : α → α} {L L' : List α} {i : Nat} (h : Chg f L L' i) {x : α} (hx : L[i]? = some x) : Chg f L (L'.set i (f x)) (i + 1) := by
  have hi := (List.getElem?_eq_some_iff.1 hx).1
  have hl := h.len
  unfold Chg at h ⊢
  refine List.ext_getElem? fun j => ?_
  by_cases e : i = j
  · subst e
    rw [List.getElem?_set_self (by rw [hl]; exact hi), List.getElem?_append_left (by simp; omega), List.getElem?_map, List.getElem?_take_of_lt (by omega), hx]
    rfl
  · rw [List.getElem?_set_ne e, h]
    by_cases hj : j < i
    · rw [List.getElem?_append_left (by simp; omega), List.getElem?_append_left (by simp; omega), List.getElem?_map, List.getElem?_map, List.getElem?_take_of_lt hj, List.getElem?_take_of_lt (by omega)]
    · rw [List.getElem?_append_right (by simp; omega), List.getElem?_append_right (by simp; omega)]
      simp only [List.length_map, List.length_take, List.getElem?_drop]
      congr 1
      omega
theorem Chg.done {α : Type} {f : α → α} {L L' : List α} (h : Chg f L L' L.length) : L' = L.map f := by
  unfold Chg at h
  rw [List.take_length, List.drop_length, List.append_nil] at h
  exact h
/-- What is said of a voyage with few truths. -/
structure FewV (v : Vg) : Prop where
  sm : SmallV v 2 2 2 4
  ls : ∀ c ∈ v.ls, c.t1 ≤ c.t0 + 2
  ss : ∀ s ∈ v.ss, s.t1 ≤ s.t0 + 2 ∧ s.lv.length ≤ 2 ∧ ∀ l ∈ s.lv, l.d1 ≤ l.d0 + 1
theorem few_ok {v : Vg} (h : SmallV v 2 2 2 4) : FewV ⟨v.li, v.un, v.tr, v.le, v.hs, v.ss.map fwS, v.ls.map fwC⟩ := by
  refine ⟨⟨h.li, h.un, h.tr, h.le, h.h1, h.hn, h.hs, by dsimp only; rw [List.length_map]; exact h.sn, fun s hs => ?_, by dsimp only; rw [List.length_map]; exact h.ln, fun c hc => ?_⟩, fun c hc => ?_, fun s hs => ?_⟩
  · obtain ⟨s, hs', rfl⟩ := List.mem_map.1 hs
    obtain ⟨a, b, c, d, e, k⟩ := h.ss s hs'
    refine ⟨a, by simp only [fwS]; split <;> omega, by simp only [fwS]; split <;> omega, by simp [fwS]; omega, by simp [fwS]; omega, ⟨fun l hl => ?_, ?_, fun l hl => ?_⟩⟩
    · obtain ⟨l, hl', rfl⟩ := List.mem_map.1 hl
      have := k.ok l (List.mem_of_mem_take hl')
      simp only [fwV]
      refine ⟨by omega, by omega, by omega, ?_, ?_⟩ <;> split <;> omega
    · show ((s.lv.take 2).map fwV).Pairwise _
      rw [List.pairwise_map]
      exact (k.asc.sublist (List.take_sublist 2 _))
    · simp only [fwS, List.getElem?_map, Option.map_eq_some_iff] at hl
      obtain ⟨l', hl, rfl⟩ := hl
      rw [List.getElem?_take_of_lt (by omega)] at hl
      exact k.zero l' hl
  · obtain ⟨c, hc', rfl⟩ := List.mem_map.1 hc
    have := h.ls c hc'
    simp only [fwC]
    refine ⟨by omega, ?_, ?_, by omega, by omega⟩ <;> split <;> omega
  · obtain ⟨c, hc', rfl⟩ := List.mem_map.1 hc
    simp only [fwC]
    split <;> omega
  · obtain ⟨s, hs', rfl⟩ := List.mem_map.1 hs
    refine ⟨by simp only [fwS]; split <;> omega, by simp [fwS]; omega, fun l hl => ?_⟩
    obtain ⟨l, hl', rfl⟩ := List.mem_map.1 hl
    simp only [fwV]
    split <;> omega
theorem own_cut {w : World} {b e s n m c : Nat} {A : Option Addr} {xs : List Value} (h : w.ownsRow b e s (.slice A n c) n xs) (hm : m ≤ n) : w.ownsRow b e s (.slice A m c) m (xs.take (m * s)) := by
  have hml : m * s ≤ n * s := Nat.mul_le_mul_right s hm
  refine ⟨by rw [List.length_take, h.1]; omega, ?_⟩
  rcases h.2 with ⟨e1, e2⟩ | ⟨g, cap, cur, e1, e2, e3, e4, e5, e6, e7⟩
  · simp only [Value.slice.injEq] at e1
    obtain ⟨rfl, _, rfl⟩ := e1
    have : m = 0 := by omega
    subst this
    exact .inl ⟨rfl, rfl⟩
  · simp only [Value.slice.injEq] at e1
    obtain ⟨rfl, _, rfl⟩ := e1
    refine .inr ⟨g, c, cur, rfl, e2, e3, by omega, e5, e6, ?_⟩
    rw [← e7, List.take_take, Nat.min_eq_left hml]
theorem Apt2.set2 {rs : List (List Value)} (ha : Apt2 rs) {i : Nat} {r r' : List Value} (hr : rs[i]? = some r) (h0 : ∀ u, r'[2]? = some u → ∃ u', r[2]? = some u' ∧ u.ownBlock = u'.ownBlock) : Apt2 (rs.set i r') := by
  have hi : i < rs.length := (List.getElem?_eq_some_iff.1 hr).1
  have key : ∀ (j : Nat) (s : List Value) (u : Value), (rs.set i r')[j]? = some s → s[2]? = some u → ∃ s' u', rs[j]? = some s' ∧ s'[2]? = some u' ∧ u.ownBlock = u'.ownBlock := fun j s u hs hu => by
    by_cases hj : i = j
    · subst hj
      rw [List.getElem?_set_self hi, Option.some.injEq] at hs
      subst hs
      obtain ⟨u', e1, e2⟩ := h0 u hu
      exact ⟨r, u', hr, e1, e2⟩
    · rw [List.getElem?_set_ne hj] at hs
      exact ⟨s, u, hs, hu, rfl⟩
  intro a b s t u v hab h1 h2 hu hv
  obtain ⟨s', u', e1, e2, e3⟩ := key a s u h1 hu
  obtain ⟨t', v', f1, f2, f3⟩ := key b t v h2 hv
  rw [e3, f3]
  exact ha a b s' t' u' v' hab e1 f1 e2 f2
theorem take_flat (L : List Lv) (m : Nat) : (L.map lvr).flatten.take (m * 3) = ((L.take m).map lvr).flatten := by
  induction m generalizing L with
  | zero => simp
  | succ m ih =>
    cases L with
    | nil => simp
    | cons l L =>
      rw [List.map_cons, List.flatten_cons, show (m + 1) * 3 = 3 + m * 3 by omega, List.take_append]
      have e : (lvr l).length = 3 := rfl
      rw [e, List.take_of_length_le (by rw [e]; omega), show 3 + m * 3 - 3 = m * 3 by omega, ih]
      rfl
section
variable {g : Nat} {V w wr x : World} {q : Nat} {li un tr le : Int} {hs : List Hd} {ss : List Si} {ls : List Cg} {hv sv lv : Value} {rs : List (List Value)}
/-- The levels of a sill are cut short. -/
theorem XV.cutl {yq gq n c C : Nat} (h : XV g V q li un tr le hs ss ls hv (.slice (some ⟨yq, 0, none⟩) n c) lv rs wr) (hn : ss.length = n) {i m : Nat} {b : Si} (hb : ss[i]? = some b) (hH : HeadIs2 rs i (.slice (some ⟨gq, 0, none⟩) b.lv.length C)) (hm : m ≤ b.lv.length) :
    ∃ rs', XV g V q li un tr le hs (ss.set i ⟨b.t0, b.t1, b.lv.take m⟩) ls hv (.slice (some ⟨yq, 0, none⟩) n c) lv rs' (wr.setCell ⟨yq, i * 3 + 2, none⟩ (.slice (some ⟨gq, 0, none⟩) m C)) ∧ HeadIs2 rs' i (.slice (some ⟨gq, 0, none⟩) m C) := by
  subst hn
  have hib : i < ss.length := (List.getElem?_eq_some_iff.1 hb).1
  have hir : i < rs.length := by rw [h.so.len]; exact hib
  obtain ⟨A, C2, hr, og⟩ := h.so.row i rs[i] b (List.getElem?_eq_getElem hir) hb
  obtain ⟨r, e1, e2⟩ := hH
  rw [List.getElem?_eq_getElem hir, Option.some.injEq] at e1
  subst e1
  have hr2 : rs[i][2]? = some (.slice A b.lv.length C2) := by rw [hr]; rfl
  rw [hr2, Option.some.injEq, Value.slice.injEq] at e2
  obtain ⟨rfl, _, rfl⟩ := e2
  have k : wr.grownBy (wr.setCell ⟨yq, i * 3 + 2, none⟩ (.slice (some ⟨gq, 0, none⟩) m C2)) (Value.slice (some ⟨yq, 0, none⟩) ss.length c).ownBlock := grown_set _ _ _ _
  refine ⟨rs.set i (rs[i].set 2 (.slice (some ⟨gq, 0, none⟩) m C2)), h.putS k ?_ ⟨by simp [h.so.len], fun j r b2 h1 h2 => ?_⟩ (h.ap.set2 (List.getElem?_eq_getElem hir) fun u hu => ?_), ?_⟩
  · rw [List.length_set, ← flatten_set rs h.so.three i 2 rs[i] _ (List.getElem?_eq_getElem hir) (by omega)]
    exact own_store h.os (i * 3 + 2) _ (by omega)
  · by_cases hj : j = i
    · subst hj
      rw [List.getElem?_set_self hir] at h1
      rw [List.getElem?_set_self hib] at h2
      simp only [Option.some.injEq] at h1 h2
      subst h1 h2
      refine ⟨some ⟨gq, 0, none⟩, C2, by rw [hr]; simp [List.length_take]; omega, ?_⟩
      dsimp only
      have o := store_far h.os og (by decide) (i := j * 3 + 2) (u := .slice (some ⟨gq, 0, none⟩) m C2)
      have o2 := own_cut o hm
      rw [take_flat] at o2
      rw [show (b.lv.take m).length = m by rw [List.length_take]; omega]
      exact o2
    · rw [List.getElem?_set_ne (Ne.symm hj)] at h1 h2
      obtain ⟨A2, C3, e2, o2⟩ := h.so.row j r b2 h1 h2
      exact ⟨A2, C3, e2, store_far h.os o2 (by decide)⟩
  · have h3 : rs[i].length = 3 := h.so.three _ (List.getElem_mem hir)
    rw [List.getElem?_set_self (by omega), Option.some.injEq] at hu
    subst hu
    exact ⟨_, hr2, rfl⟩
  · have h3 : rs[i].length = 3 := h.so.three _ (List.getElem_mem hir)
    exact ⟨_, List.getElem?_set_self hir, List.getElem?_set_self (by omega)⟩
theorem XV.ofOV {v : Vg} {p : Vp} (h : OV g w v p rs x) (hg : g < w.heap.size) : XV g w x.heap.size v.li v.un v.tr v.le v.hs v.ss v.ls (.slice p.HA p.hn p.hc) (.slice p.SA p.sn p.sc) (.slice p.LA p.ln p.lc) rs (x.alloc (.cells #[.int .i64 v.li, .int .i64 v.un, .int .i64 v.tr, .slice p.HA p.hn p.hc, .int .i64 v.le, .slice p.SA p.sn p.sc, .slice p.LA p.ln p.lc] 26)) := by
  have hx := h.ft.size
  exact ⟨Bx.new _ _ _, hx, by omega, h.oh.alloc _, h.os.alloc _, h.so.bel (bel1 _ _), h.ap, h.ol.alloc _, h.ft.alloc _⟩
theorem XV.fin {HA SA LA : Option Addr} {hn hc sn sc ln lc z : Nat} {cs : Array Value} (h : XV g V q li un tr le hs ss ls (.slice HA hn hc) (.slice SA sn sc) (.slice LA ln lc) rs wr) (k0 : Bx wr z 26 cs) (hz : z ≠ g) (k : wr.grownBy x (some z)) (h1 : hs.length = hn) (h2 : ss.length = sn) (h3 : ls.length = ln) :
    VoyAt x x.heap.size ⟨li, un, tr, le, hs, ss, ls⟩ ⟨HA, hn, hc, SA, sn, sc, LA, ln, lc⟩ ∧ Fd g x := by
  subst h1 h2 h3
  have oh := h.oh.kept k (.inr fun e => own_bx h.oh k0 (by decide) e.symm)
  have os := h.os.kept k (.inr fun e => own_bx h.os k0 (by decide) e.symm)
  have ol := h.ol.kept k (.inr fun e => own_bx h.ol k0 (by decide) e.symm)
  have so := h.so.kept k fun v n xs o => .inr fun e => own_bx o k0 (by decide) e.symm
  have hfd : Fd g x := by obtain ⟨y, h1, h2, h3⟩ := h.ft.2; exact ⟨y, h1, h2, h3.grown k (by simp; omega)⟩
  exact ⟨⟨rfl, rfl, rfl, own_rows oh (hdr_three _) (by simp), so.at_ os rfl, own_rows ol (cgr_three _) (by simp)⟩, hfd⟩
end
end Go.Proofs.Ytfcpjkofbejleaa
