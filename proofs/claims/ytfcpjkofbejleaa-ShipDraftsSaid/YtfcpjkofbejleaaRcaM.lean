/- CopyVoyage 22: a copy in the making. -/
import Derived.Test.YtfcpjkofbejleaaYe
import Derived.Test.YtfcpjkofbejleaaMsM
import Derived.Test.YtfcpjkofbejleaaFsM
import Derived.Test.YtfcpjkofbejleaaLi2M
set_option linter.unusedSimpArgs false
set_option linter.unusedVariables false
namespace Go.Proofs.Ytfcpjkofbejleaa
open Go Go.RowKit
theorem sl_cells {w : World} {B s : Nat} {A : Option Addr} {xs : List (List Value)} (h : Sl w B s A xs) (hs : 0 < s ∧ ∀ r ∈ xs, r.length = s) : ∀ j u, xs.flatten[j]? = some u → ∃ ad, A = some ad ∧ w.cell? (ad.add j) = some u := by
  intro j u hu
  obtain ⟨k, r, i, rfl, h1, h2⟩ := flat_back hs.1 xs hs.2 j u hu
  obtain ⟨ad, e, _, h3⟩ := h k r h1
  have := h3 i u h2
  rw [add_add] at this
  exact ⟨ad, e, this⟩
theorem flat_lenS {s : Nat} : ∀ (xs : List (List Value)) (_ : ∀ r ∈ xs, r.length = s), xs.flatten.length = xs.length * s
  | [], _ => by simp
  | x :: xs, hs => by
    rw [List.flatten_cons, List.length_append, hs x (by simp), flat_lenS xs fun r hr => hs r (by simp [hr]), List.length_cons, Nat.succ_mul]; omega
theorem one_of {xs : List (List Value)} (h : ∀ r ∈ xs, ∀ u ∈ r, u.oneCell' = true) : ∀ u ∈ xs.flatten, u.oneCell' = true := fun u hu => by
  obtain ⟨r, hr, hu⟩ := List.mem_flatten.1 hu
  exact h r hr u hu
theorem hdr_one (l : List Hd) : ∀ r ∈ l.map hdr, ∀ u ∈ r, u.oneCell' = true := by
  intro r hr u hu
  obtain ⟨y, _, rfl⟩ := List.mem_map.1 hr
  simp [hdr] at hu
  rcases hu with rfl | rfl | rfl <;> rfl
theorem lvr_one (l : List Lv) : ∀ r ∈ l.map lvr, ∀ u ∈ r, u.oneCell' = true := by
  intro r hr u hu
  obtain ⟨y, _, rfl⟩ := List.mem_map.1 hr
  simp [lvr] at hu
  rcases hu with rfl | rfl | rfl <;> rfl
theorem cgr_one (l : List Cg) : ∀ r ∈ l.map cgr, ∀ u ∈ r, u.oneCell' = true := by
  intro r hr u hu
  obtain ⟨y, _, rfl⟩ := List.mem_map.1 hr
  simp [cgr] at hu
  rcases hu with rfl | rfl | rfl <;> rfl
/-- No two sills share their levels. -/
def Apt2 (rs : List (List Value)) : Prop := ∀ (i j : Nat) (r s : List Value) (u v : Value), i < j → rs[i]? = some r → rs[j]? = some s → r[2]? = some u → s[2]? = some v → u.ownBlock = none ∨ u.ownBlock ≠ v.ownBlock
theorem Apt2.snoc {w w' : World} {B : Nat} {rs : List (List Value)} {ss : List Si} {A : Option Addr} {n c : Nat} {xs : List Value} (h : Apt2 rs) (hb : SisOwn w B rs ss) (o : w'.ownsRow w.heap.size 75 3 (.slice A n c) n xs) (x y : Value) : Apt2 (rs ++ [[x, y, .slice A n c]]) := by
  intro i j r s u v hij hi hj hu hv
  by_cases hjl : j < rs.length
  · rw [List.getElem?_append_left (by omega)] at hi
    rw [List.getElem?_append_left hjl] at hj
    exact h i j r s u v hij hi hj hu hv
  · have hj2 : j < (rs ++ [[x, y, Value.slice A n c]]).length := (List.getElem?_eq_some_iff.1 hj).1
    obtain rfl : j = rs.length := by simp at hj2; omega
    rw [List.getElem?_append_left hij] at hi
    rw [List.getElem?_concat_length, Option.some.injEq] at hj
    subst hj
    simp only [List.getElem?_cons_succ, List.getElem?_cons_zero, Option.some.injEq] at hv
    subst hv
    have hib : i < ss.length := by rw [← hb.len]; exact hij
    obtain ⟨A2, C2, rfl, o2⟩ := hb.row i r _ hi (List.getElem?_eq_getElem hib)
    simp only [List.getElem?_cons_succ, List.getElem?_cons_zero, Option.some.injEq] at hu
    subst hu
    cases e : (Value.slice A2 ss[i].lv.length C2).ownBlock with
    | none => exact .inl rfl
    | some k =>
      refine .inr fun e2 => ?_
      have h1 := (o2.lt k e).2
      have h2 := (o.lt k e2.symm).1
      omega
/-- A copy of a voyage in the making: its box q behind V. -/
structure CV (V : World) (q : Nat) (li un tr le : Int) (hs : List Hd) (ss : List Si) (ls : List Cg) (hv sv lv : Value) (rs : List (List Value)) (wr : World) : Prop where
  k : Bx wr q 26 #[.int .i64 li, .int .i64 un, .int .i64 tr, hv, .int .i64 le, sv, lv]
  oh : wr.ownsRow V.heap.size 85 3 hv hs.length (hs.map hdr).flatten
  os : wr.ownsRow V.heap.size 73 3 sv ss.length rs.flatten
  so : SisOwn wr V.heap.size rs ss
  ap : Apt2 rs
  ol : wr.ownsRow V.heap.size 70 3 lv ls.length (ls.map cgr).flatten
  hb : Below V.heap.size V wr
  hq : V.heap.size ≤ q
theorem SisOwn.bel {w w' : World} {base : Nat} {rs : List (List Value)} {ss : List Si} (h : SisOwn w base rs ss) (hb : Below w.heap.size w w') : SisOwn w' base rs ss :=
  ⟨h.len, fun j r b hr hb' => by obtain ⟨A, c, e, o⟩ := h.row j r b hr hb'; exact ⟨A, c, e, own_bel o hb⟩⟩
section
variable {V wr x : World} {q : Nat} {li un tr le : Int} {hs : List Hd} {ss : List Si} {ls : List Cg} {hv sv lv : Value} {rs : List (List Value)}
theorem CV.bel (h : CV V q li un tr le hs ss ls hv sv lv rs wr) (k : Below wr.heap.size wr x) : CV V q li un tr le hs ss ls hv sv lv rs x :=
  ⟨h.k.call k, own_bel h.oh k, own_bel h.os k, h.so.bel k, h.ap, own_bel h.ol k, h.hb.trans (k.mono h.hb.size), h.hq⟩
theorem CV.sill (h : CV V q li un tr le hs ss ls hv sv lv rs wr) {A : Option Addr} {n c : Nat} {y : Si} {v' : Value} (k : wr.grownBy x sv.ownBlock) (o : x.ownsRow V.heap.size 73 3 v' (ss.length + 1) (rs.flatten ++ [.int .i64 y.t0, .int .i64 y.t1, .slice A n c])) (hn : y.lv.length = n) (hr : wr.ownsRow V.heap.size 75 3 (.slice A n c) n (y.lv.map lvr).flatten) (ha : Apt2 (rs ++ [[.int .i64 y.t0, .int .i64 y.t1, .slice A n c]])) :
    CV V q li un tr le hs (ss ++ [y]) ls hv v' lv (rs ++ [[.int .i64 y.t0, .int .i64 y.t1, .slice A n c]]) (x.setCell ⟨q, 5, none⟩ v') := by
  have kq := h.k.grown k (own_bx h.os h.k (by decide))
  have oh' := h.oh.kept k (own_ne h.oh h.os (by decide))
  have ol' := h.ol.kept k (own_ne h.ol h.os (by decide))
  subst hn
  refine ⟨?_, own_set oh' (own_bx oh' kq (by decide)) _, ?_, ?_, ha, own_set ol' (own_bx ol' kq (by decide)) _, (h.hb.grown k h.hb.size (fun i e => (h.os.lt i e).1)).setCell h.hq _, h.hq⟩
  · have := kq.set_ 5 v'; simpa using this
  · rw [List.length_append, rows_snoc]
    exact own_set o (own_bx o kq (by decide)) _
  · exact ((h.so.snoc ⟨A, c, rfl, hr⟩).own h.os k (by decide)).set_ kq (by decide) 5 v'
end
end Go.Proofs.Ytfcpjkofbejleaa

/-! swarflaw07.wide. -/
namespace Go.Proofs.Ytfcpjkofbejleaa
open Go Go.RowKit
/-- A voyage with short lists. -/
structure Vg.Slim (v : Vg) : Prop where
  h20 : v.hs.length ≤ 20
  s20 : v.ss.length ≤ 20
  l20 : v.ls.length ≤ 20
  v20 : ∀ s ∈ v.ss, s.lv.length ≤ 20
set_option maxRecDepth 100000 in
set_option maxHeartbeats 4000000 in
theorem wide_any (v : Vg) (p : Vp) (w : World) (hF : p.Fit) (hLF : LvFit v) (hV0 : VoyAt w w.heap.size v p) :
    Calls Try.prog 14 #[.agg (vcs v p)] w fun e w' => (∃ hb : Bool, e = .returned (.bool hb) ∧ (hb = false → v.Slim)) ∧ Below w.heap.size w w' := by
  have k1 := Bx.new w 26 (vcs v p)
  have B0 := (Below.refl w.heap.size w).alloc (Nat.le_refl _) (.cells (vcs v p) 26)
  have hA1 := hV0.call B0
  have hhn := hF.hn
  have hsn := hF.sn
  have hln := hF.ln
  rw [vcs_def] at k1 B0 hA1 ⊢
  obtain ⟨V, hV⟩ : ∃ V, w.alloc (.cells #[.int .i64 v.li, .int .i64 v.un, .int .i64 v.tr, .slice p.HA p.hn p.hc, .int .i64 v.le, .slice p.SA p.sn p.sc, .slice p.LA p.ln p.lc] 26) = V := ⟨_, rfl⟩
  rw [hV] at k1 B0 hA1
  have HH := Lib.hid hV0.hl
  have HS := Lib.hid hV0.sl
  have HL := Lib.hid hV0.ll
  have HLF := Lib.hid hLF
  have HV := Lib.hid hV
  clear hV hV0 hLF hF
  obtain ⟨l0, l1, l2, l3, l4, l5, l6, lf', lz⟩ := k1.seven
  go_enter Try.func14, Try.ntmps14
  go_upto_region 1 with fail
  rw [HV.out]
  go_wp2_with fail
  go_loopw [3] (fun x wr => ∃ (i : Nat), x = .int .i64 i ∧ i ≤ p.sn ∧ i ≤ 20 ∧ Hid (∀ j b, j < i → v.ss[j]? = some b → b.lv.length ≤ 20) ∧ wr = V) (fun x _ => p.sn - (intOf x).toNat)
  case atStart => exact ⟨0, rfl, by omega, by omega, Lib.hid (fun j b h => by omega), rfl⟩
  case round =>
    obtain ⟨i, rfl, hi, hi20, hh, rfl⟩ := hrel
    by_cases hin : i < p.sn
    · by_cases h20 : i < 20
      · have hil : i < v.ss.length := by rw [HS.out]; exact hin
        have hiw : IntKind.i64.wrap ((i : Int) + 1) = (i : Int) + 1 := IntWalk.i64_in _ (by omega)
        have h20i : (i : Int) < 20 := by omega
        obtain ⟨ba, G, gc, hSA, hba, p0, p1, p2, hgc, -⟩ := hA1.ss.at_ hil
        obtain ⟨b, hbe⟩ : ∃ b, v.ss[i] = b := ⟨_, rfl⟩
        rw [hbe] at p0 p1 p2
        obtain ⟨gl, hgl⟩ : ∃ k, b.lv.length = k := ⟨_, rfl⟩
        rw [hgl] at p2
        have HBE := Lib.hid (And.intro hbe hgl)
        rw [hSA] at l5
        clear hbe hgl hgc
        by_cases hg : 20 < gl
        · have d : decide ((20 : Int) < (gl : Int)) = true := by simp; omega
          clear hg
          go_wp2_with fail
          go_ret
          exact ⟨⟨true, rfl, fun h => by cases h⟩, B0⟩
        · have d : decide ((20 : Int) < (gl : Int)) = false := by simp; omega
          have hnx : ∀ j b, j < i + 1 → v.ss[j]? = some b → b.lv.length ≤ 20 := fun j b' hj hb => by
            by_cases e : j = i
            · subst e
              rw [List.getElem?_eq_getElem hil, HBE.out.1, Option.some.injEq] at hb
              subst hb
              rw [HBE.out.2]; omega
            · exact hh.out j b' (by omega) hb
          have HN := Lib.hid hnx
          clear hg hnx
          go_wp2_with fail
          go_roundw
          case rel => exact ⟨i + 1, by go_num, by omega, by omega, HN, by trivial⟩
          case measure => simp [intOf]; omega
      · have e20 : i = 20 := by omega
        subst e20
        have hn20 : decide ((20 : Int) < 20) = false := by decide
        by_cases hl20 : 20 < p.hn
        · have d : decide ((20 : Int) < (p.hn : Int)) = true := by simp; omega
          clear hl20
          go_wp2_with fail
          go_ret
          exact ⟨⟨true, rfl, fun h => by cases h⟩, B0⟩
        · have d : decide ((20 : Int) < (p.hn : Int)) = false := by simp; omega
          have d2 : decide ((20 : Int) < (p.sn : Int)) = true := by simp; omega
          clear hl20
          go_wp2_with fail
          go_ret
          exact ⟨⟨true, rfl, fun h => by cases h⟩, B0⟩
    · obtain rfl : i = p.sn := by omega
      by_cases hl20 : 20 < p.hn
      · have d : decide ((20 : Int) < (p.hn : Int)) = true := by simp; omega
        clear hl20
        go_wp2_with fail
        go_ret
        exact ⟨⟨true, rfl, fun h => by cases h⟩, B0⟩
      · have d : decide ((20 : Int) < (p.hn : Int)) = false := by simp; omega
        by_cases hb20 : 20 < p.sn
        · have d2 : decide ((20 : Int) < (p.sn : Int)) = true := by simp; omega
          clear hb20
          go_wp2_with fail
          go_ret
          exact ⟨⟨true, rfl, fun h => by cases h⟩, B0⟩
        · have d2 : decide ((20 : Int) < (p.sn : Int)) = false := by simp; omega
          by_cases hc20 : 20 < p.ln
          · have d3 : decide ((20 : Int) < (p.ln : Int)) = true := by simp; omega
            clear hc20
            go_wp2_with fail
            go_ret
            exact ⟨⟨true, rfl, fun h => by cases h⟩, B0⟩
          · have d3 : decide ((20 : Int) < (p.ln : Int)) = false := by simp; omega
            have hfin : v.Slim := ⟨by have := HH.out; omega, by have := HS.out; omega, by have := HL.out; omega, fun b hb => by
              obtain ⟨j, hj⟩ := List.getElem?_of_mem hb
              exact hh.out j b (by have h9 := (List.getElem?_eq_some_iff.1 hj).1; rw [HS.out] at h9; omega) hj⟩
            have HF := Lib.hid hfin
            clear hl20 hb20 hc20 hfin
            go_wp2_with fail
            go_ret
            exact ⟨⟨false, rfl, fun _ => HF.out⟩, B0⟩
end Go.Proofs.Ytfcpjkofbejleaa

/-! ShipTrue. -/
namespace Go.Proofs.Ytfcpjkofbejleaa
open Go Go.RowKit
theorem Bx.two' {w : World} {g : Nat} {t : TypeId} {a b : Value} (k : Bx w g t #[a, b]) : w.cell? ⟨g, 0, none⟩ = some a ∧ w.cell? ⟨g, 1, none⟩ = some b ∧ (∀ o, w.frozen? ⟨g, o, none⟩ = false) ∧ g < w.heap.size :=
  ⟨k.cell 0, k.cell 1, k.free, k.lt⟩
end Go.Proofs.Ytfcpjkofbejleaa

/-! ShipMost. -/
namespace Go.Proofs.Ytfcpjkofbejleaa
open Go Go.RowKit
/-- The most worth so far, and where. -/
def MostAt (wo : List Int → Int) (L : List (List Int)) (k : Nat) (r : Option (List Int)) (mo at_ : Int) : Prop :=
  (r = none ∧ mo = -1 ∧ at_ = -1) ∨ ∃ (m : List Int) (j : Nat), r = some m ∧ mo = wo m ∧ at_ = j ∧ j < k ∧ L[j]? = some m
theorem MostAt.pick {ok : List Int → Bool} {wo : List Int → Int} {L : List (List Int)} {k : Nat} {r : Option (List Int)} {mo a : Int} (h : MostAt wo L k r mo a) (x : List Int) : pick ok wo r x = if ok x = true ∧ mo < wo x then some x else r := by
  rcases h with ⟨rfl, rfl, _⟩ | ⟨m, j, rfl, rfl, _⟩ <;> rfl
theorem MostAt.no {ok : List Int → Bool} {wo : List Int → Int} {L : List (List Int)} {k : Nat} {mo a : Int} (h : MostAt wo L k (bst ok wo (L.take k)) mo a) (hk : k < L.length) (hn : ¬ (ok L[k] = true ∧ mo < wo L[k])) : MostAt wo L (k + 1) (bst ok wo (L.take (k + 1))) mo a := by
  rw [List.take_succ_eq_append_getElem hk, best_snoc]
  rw [h.pick, if_neg hn]
  rcases h with h | ⟨m, j, h1, h2, h3, h4, h5⟩
  · exact .inl h
  · exact .inr ⟨m, j, h1, h2, h3, by omega, h5⟩
end Go.Proofs.Ytfcpjkofbejleaa

/-! Copies of voyages that are changed while a feed turns. -/
namespace Go.Proofs.Ytfcpjkofbejleaa
open Go Go.RowKit
/-- A voyage of one's own: its box q, its rows behind V; the feed g turns. -/
structure XV (g : Nat) (V : World) (q : Nat) (li un tr le : Int) (hs : List Hd) (ss : List Si) (ls : List Cg) (hv sv lv : Value) (rs : List (List Value)) (wr : World) : Prop where
  k : Bx wr q 26 #[.int .i64 li, .int .i64 un, .int .i64 tr, hv, .int .i64 le, sv, lv]
  hq : V.heap.size ≤ q
  hqg : q ≠ g
  oh : wr.ownsRow V.heap.size 85 3 hv hs.length (hs.map hdr).flatten
  os : wr.ownsRow V.heap.size 73 3 sv ss.length rs.flatten
  so : SisOwn wr V.heap.size rs ss
  ap : Apt2 rs
  ol : wr.ownsRow V.heap.size 70 3 lv ls.length (ls.map cgr).flatten
  ft : FT g V wr
section
variable {g : Nat} {V wr x : World} {q : Nat} {li un tr le : Int} {hs : List Hd} {ss : List Si} {ls : List Cg} {hv sv lv : Value} {rs : List (List Value)}
theorem XV.of (h : CV V q li un tr le hs ss ls hv sv lv rs wr) (hf : Fd g V) : XV g V q li un tr le hs ss ls hv sv lv rs wr :=
  ⟨h.k, h.hq, by have := hf.lt; have := h.hq; omega, h.oh, h.os, h.so, h.ap, h.ol, (FT.self hf).bel h.hb⟩
theorem XV.voy (h : XV g V q li un tr le hs ss ls hv sv lv rs wr) {HA SA LA : Option Addr} {hn hc sn sc ln lc : Nat} (e1 : hv = .slice HA hn hc) (e2 : sv = .slice SA sn sc) (e3 : lv = .slice LA ln lc) (h1 : hs.length = hn) (h2 : ss.length = sn) (h3 : ls.length = ln) :
    VoyAt wr wr.heap.size ⟨li, un, tr, le, hs, ss, ls⟩ ⟨HA, hn, hc, SA, sn, sc, LA, ln, lc⟩ := by
  subst e1 e2 e3 h1 h2 h3
  exact ⟨rfl, rfl, rfl, own_rows h.oh (hdr_three _) (by simp), h.so.at_ h.os rfl, own_rows h.ol (cgr_three _) (by simp)⟩
/-- A store into the holds. -/
theorem XV.put (h : XV g V q li un tr le hs ss ls hv sv lv rs wr) {hs' : List Hd} (k : wr.grownBy x hv.ownBlock) (o : x.ownsRow V.heap.size 85 3 hv hs'.length (hs'.map hdr).flatten) : XV g V q li un tr le hs' ss ls hv sv lv rs x :=
  ⟨h.k.grown k (own_bx h.oh h.k (by decide)), h.hq, h.hqg, o, h.os.kept k (own_ne h.os h.oh (by decide)), h.so.own h.oh k (by decide), h.ap, h.ol.kept k (own_ne h.ol h.oh (by decide)), h.ft.own h.oh k (Nat.le_refl _) (by decide)⟩
theorem XV.hold (h : XV g V q li un tr le hs ss ls hv sv lv rs wr) {z : Hd} {v' : Value} (k : wr.grownBy x hv.ownBlock) (o : x.ownsRow V.heap.size 85 3 v' (hs.length + 1) ((hs.map hdr).flatten ++ hdr z)) : XV g V q li un tr le (hs ++ [z]) ss ls v' sv lv rs (x.setCell ⟨q, 3, none⟩ v') := by
  have kq := h.k.grown k (own_bx h.oh h.k (by decide))
  have os' := h.os.kept k (own_ne h.os h.oh (by decide))
  have ol' := h.ol.kept k (own_ne h.ol h.oh (by decide))
  have ft' : FT g V x := h.ft.own h.oh k (Nat.le_refl _) (by decide)
  refine ⟨?_, h.hq, h.hqg, ?_, own_set os' (own_bx os' kq (by decide)) _, (h.so.own h.oh k (by decide)).set_ kq (by decide) 3 v', h.ap, own_set ol' (own_bx ol' kq (by decide)) _, ft'.set_ h.hq (Ne.symm h.hqg) _ _⟩
  · have := kq.set_ 3 v'; simpa using this
  · rw [List.length_append, hdr_snoc]
    exact own_set o (own_bx o kq (by decide)) v'
end
end Go.Proofs.Ytfcpjkofbejleaa

/-! Copies of voyages: sills and levels that are changed. -/
namespace Go.Proofs.Ytfcpjkofbejleaa
open Go Go.RowKit
/-- The levels of sill i. -/
def HeadIs2 (rs : List (List Value)) (i : Nat) (v : Value) : Prop := ∃ r, rs[i]? = some r ∧ r[2]? = some v
theorem Apt2.set_ {rs : List (List Value)} (ha : Apt2 rs) {i : Nat} {r r' : List Value} (hr : rs[i]? = some r) (h0 : r'[2]? = r[2]?) : Apt2 (rs.set i r') := by
  have hi : i < rs.length := (List.getElem?_eq_some_iff.1 hr).1
  have key : ∀ (j : Nat) (s : List Value), (rs.set i r')[j]? = some s → ∃ s', rs[j]? = some s' ∧ s[2]? = s'[2]? := fun j s hs => by
    by_cases hj : i = j
    · subst hj
      rw [List.getElem?_set_self hi, Option.some.injEq] at hs
      subst hs
      exact ⟨r, hr, h0⟩
    · rw [List.getElem?_set_ne hj] at hs
      exact ⟨s, hs, rfl⟩
  intro a b s t u v hab h1 h2 hu hv
  obtain ⟨s', e1, e2⟩ := key a s h1
  obtain ⟨t', e3, e4⟩ := key b t h2
  exact ha a b s' t' u v hab e1 e3 (e2 ▸ hu) (e4 ▸ hv)
theorem HeadIs2.set_ {rs : List (List Value)} {i j : Nat} {r r' : List Value} {v : Value} (h : HeadIs2 rs j v) (hr : rs[i]? = some r) (h0 : r'[2]? = r[2]?) : HeadIs2 (rs.set i r') j v := by
  have hi : i < rs.length := (List.getElem?_eq_some_iff.1 hr).1
  obtain ⟨s, e1, e2⟩ := h
  by_cases hj : i = j
  · subst hj
    rw [hr, Option.some.injEq] at e1
    subst e1
    exact ⟨r', List.getElem?_set_self hi, h0.trans e2⟩
  · exact ⟨s, by rw [List.getElem?_set_ne hj]; exact e1, e2⟩
section
variable {g : Nat} {V wr x : World} {q : Nat} {li un tr le : Int} {hs : List Hd} {ss : List Si} {ls : List Cg} {hv sv lv : Value} {rs : List (List Value)}
/-- Sills are changed. -/
theorem XV.putS (h : XV g V q li un tr le hs ss ls hv sv lv rs wr) {ss' : List Si} {rs' : List (List Value)} (k : wr.grownBy x sv.ownBlock) (o : x.ownsRow V.heap.size 73 3 sv ss'.length rs'.flatten) (so : SisOwn x V.heap.size rs' ss') (ap : Apt2 rs') : XV g V q li un tr le hs ss' ls hv sv lv rs' x :=
  ⟨h.k.grown k (own_bx h.os h.k (by decide)), h.hq, h.hqg, h.oh.kept k (own_ne h.oh h.os (by decide)), o, so, ap, h.ol.kept k (own_ne h.ol h.os (by decide)), h.ft.own h.os k (Nat.le_refl _) (by decide)⟩
/-- A number of a sill is set. -/
theorem XV.cell {yq n c : Nat} (h : XV g V q li un tr le hs ss ls hv (.slice (some ⟨yq, 0, none⟩) n c) lv rs wr) (hn : ss.length = n) {i : Nat} {b b' : Si} (hb : ss[i]? = some b) (o : Nat) (ho : o < 2) (z : Int) (hg : b'.lv = b.lv) (hrow : ∀ A C, ([.int .i64 b.t0, .int .i64 b.t1, .slice A b.lv.length C] : List Value).set o (.int .i64 z) = [.int .i64 b'.t0, .int .i64 b'.t1, .slice A b'.lv.length C]) :
    ∃ rs', XV g V q li un tr le hs (ss.set i b') ls hv (.slice (some ⟨yq, 0, none⟩) n c) lv rs' (wr.setCell ⟨yq, i * 3 + o, none⟩ (.int .i64 z)) ∧ ∀ j v, HeadIs2 rs j v → HeadIs2 rs' j v := by
  subst hn
  have hib : i < ss.length := (List.getElem?_eq_some_iff.1 hb).1
  have hir : i < rs.length := by rw [h.so.len]; exact hib
  obtain ⟨A, C, hr, og⟩ := h.so.row i rs[i] b (List.getElem?_eq_getElem hir) hb
  have h0 : (rs[i].set o (.int .i64 z))[2]? = rs[i][2]? := List.getElem?_set_ne (by omega)
  have k : wr.grownBy (wr.setCell ⟨yq, i * 3 + o, none⟩ (.int .i64 z)) (Value.slice (some ⟨yq, 0, none⟩) ss.length c).ownBlock := grown_set _ _ _ _
  refine ⟨rs.set i (rs[i].set o (.int .i64 z)), h.putS k ?_ ⟨by simp [h.so.len], fun j r b2 h1 h2 => ?_⟩ (h.ap.set_ (List.getElem?_eq_getElem hir) h0), fun j v hv => hv.set_ (List.getElem?_eq_getElem hir) h0⟩
  · rw [List.length_set, ← flatten_set rs h.so.three i o rs[i] _ (List.getElem?_eq_getElem hir) (by omega)]
    exact own_store h.os (i * 3 + o) _ (by omega)
  · by_cases hj : j = i
    · subst hj
      rw [List.getElem?_set_self hir] at h1
      rw [List.getElem?_set_self hib] at h2
      simp only [Option.some.injEq] at h1 h2
      subst h1 h2
      refine ⟨A, C, by rw [hr]; exact hrow A C, ?_⟩
      rw [hg]
      exact store_far h.os og (by decide)
    · rw [List.getElem?_set_ne (Ne.symm hj)] at h1 h2
      obtain ⟨A2, C2, e2, o2⟩ := h.so.row j r b2 h1 h2
      exact ⟨A2, C2, e2, store_far h.os o2 (by decide)⟩
/-- What can be read of sill i. -/
theorem XV.at_ {yq n c : Nat} (h : XV g V q li un tr le hs ss ls hv (.slice (some ⟨yq, 0, none⟩) n c) lv rs wr) (hn : ss.length = n) {i : Nat} {b : Si} (hb : ss[i]? = some b) :
    ∃ (G : Option Addr) (gc : Nat), wr.cell? ⟨yq, i * 3, none⟩ = some (.int .i64 b.t0) ∧ wr.cell? ⟨yq, i * 3 + 1, none⟩ = some (.int .i64 b.t1) ∧ wr.cell? ⟨yq, i * 3 + 2, none⟩ = some (.slice G b.lv.length gc) ∧ HeadIs2 rs i (.slice G b.lv.length gc) ∧ wr.ownsRow V.heap.size 75 3 (.slice G b.lv.length gc) b.lv.length (b.lv.map lvr).flatten := by
  subst hn
  have hib : i < ss.length := (List.getElem?_eq_some_iff.1 hb).1
  have hir : i < rs.length := by rw [h.so.len]; exact hib
  obtain ⟨A, C, hr, og⟩ := h.so.row i rs[i] b (List.getElem?_eq_getElem hir) hb
  obtain ⟨A', c', e, hs⟩ := own_sl h.os h.so.three h.so.len
  simp only [Value.slice.injEq, true_and] at e
  obtain ⟨rfl, rfl⟩ := e
  have hcells := hs.cells (by omega) h.so.three
  have cell : ∀ o, o < 3 → wr.cell? ⟨yq, i * 3 + o, none⟩ = rs[i][o]? := fun o ho => by
    have h4 : rs[i].length = 3 := h.so.three _ (List.getElem_mem hir)
    have e1 : rs[i][o]? = some rs[i][o] := List.getElem?_eq_getElem (by omega)
    have e2 := flat_at (s := 3) rs h.so.three i rs[i] (List.getElem?_eq_getElem hir) o _ e1
    have e3 := hcells _ _ e2
    rw [e1, ← e3]
    unfold Addr.add
    split <;> simp_all
  have c0 := cell 0 (by omega)
  have c1 := cell 1 (by omega)
  have c2 := cell 2 (by omega)
  rw [hr] at c0 c1 c2
  exact ⟨A, C, c0, c1, c2, ⟨rs[i], List.getElem?_eq_getElem hir, by rw [hr]; rfl⟩, og⟩
end
end Go.Proofs.Ytfcpjkofbejleaa

/-! The reference: between 68, checkRange 67, checkBarge 65. -/
namespace Go.Proofs.Ytfcpjkofbejleaa
open Go Go.RowKit
theorem btw_yes (n lo hi : Int) (w : World) (h : lo ≤ n ∧ n ≤ hi) : Calls Try.prog 68 #[.int .i64 n, .int .i64 lo, .int .i64 hi] w fun e w' => e = .returned (.bool true) ∧ Below w.heap.size w w' := by
  have h1 : lo ≤ n := h.1
  have h2 : n ≤ hi := h.2
  clear h
  go_enter Try.func68, Try.ntmps68
  go_wp2_with fail
  go_ret
  exact ⟨rfl, Below.refl _ _⟩
theorem btw_no (n lo hi : Int) (w : World) (h : ¬ (lo ≤ n ∧ n ≤ hi)) : Calls Try.prog 68 #[.int .i64 n, .int .i64 lo, .int .i64 hi] w fun e w' => e = .returned (.bool false) ∧ Below w.heap.size w w' := by
  by_cases h1 : lo ≤ n
  · have h2 : ¬ n ≤ hi := fun h2 => h ⟨h1, h2⟩
    clear h
    go_enter Try.func68, Try.ntmps68
    go_wp2_with fail
    go_ret
    exact ⟨rfl, Below.refl _ _⟩
  · clear h
    go_enter Try.func68, Try.ntmps68
    go_wp2_with fail
    go_ret
    exact ⟨rfl, Below.refl _ _⟩
theorem refRange_any (x y m : Int) (w : World) : Calls Try.prog 67 #[.agg #[.int .i64 x, .int .i64 y], .int .i64 m] w fun e w' => e = .returned (.int .i64 (ckR x y 0 m)) ∧ Below w.heap.size w w' := by
  have k0 := Bx.new w 41 #[.int .i64 x, .int .i64 y]
  have B0 := (Below.refl w.heap.size w).alloc (Nat.le_refl _) (.cells #[.int .i64 x, .int .i64 y] 41)
  by_cases hA : 0 ≤ x ∧ x ≤ m
  · by_cases hB : 0 ≤ y ∧ y ≤ m
    · by_cases hC : y < x
      · have HR : Hid (ckR x y 0 m = 5) := Lib.hid (by unfold ckR; rw [if_neg (by omega), if_pos (by omega)])
        go_enter Try.func67, Try.ntmps67
        go_wp2_with (first
          | (go_at_call 68; have _t := hb_1; clear _t; refine (btw_yes _ _ _ _ hB).mono ?_; rintro e_2 w_2 ⟨rfl, hb_2⟩; have k_2 := k_1.call hb_2; have B_2 := B_1.trans (hb_2.mono B_1.size); obtain ⟨c0_2, c1_2, cf_2, cz_2⟩ := k_2.two')
          | (go_at_call 68; refine (btw_yes _ _ _ _ hA).mono ?_; rintro e_1 w_1 ⟨rfl, hb_1⟩; have k_1 := k0.call hb_1; have B_1 := B0.trans (hb_1.mono B0.size); obtain ⟨c0_1, c1_1, cf_1, cz_1⟩ := k_1.two')
          | fail)
        go_ret
        exact ⟨ret_int HR.out.symm, B_2⟩
      · have HR : Hid (ckR x y 0 m = 0) := Lib.hid (by unfold ckR; rw [if_neg (by omega), if_neg (by omega)])
        go_enter Try.func67, Try.ntmps67
        go_wp2_with (first
          | (go_at_call 68; have _t := hb_1; clear _t; refine (btw_yes _ _ _ _ hB).mono ?_; rintro e_2 w_2 ⟨rfl, hb_2⟩; have k_2 := k_1.call hb_2; have B_2 := B_1.trans (hb_2.mono B_1.size); obtain ⟨c0_2, c1_2, cf_2, cz_2⟩ := k_2.two')
          | (go_at_call 68; refine (btw_yes _ _ _ _ hA).mono ?_; rintro e_1 w_1 ⟨rfl, hb_1⟩; have k_1 := k0.call hb_1; have B_1 := B0.trans (hb_1.mono B0.size); obtain ⟨c0_1, c1_1, cf_1, cz_1⟩ := k_1.two')
          | fail)
        go_ret
        exact ⟨ret_int HR.out.symm, B_2⟩
    · have HR : Hid (ckR x y 0 m = 1) := Lib.hid (by unfold ckR; rw [if_pos (by omega)])
      go_enter Try.func67, Try.ntmps67
      go_wp2_with (first
        | (go_at_call 68; have _t := hb_1; clear _t; refine (btw_no _ _ _ _ hB).mono ?_; rintro e_2 w_2 ⟨rfl, hb_2⟩; have k_2 := k_1.call hb_2; have B_2 := B_1.trans (hb_2.mono B_1.size); obtain ⟨c0_2, c1_2, cf_2, cz_2⟩ := k_2.two')
        | (go_at_call 68; refine (btw_yes _ _ _ _ hA).mono ?_; rintro e_1 w_1 ⟨rfl, hb_1⟩; have k_1 := k0.call hb_1; have B_1 := B0.trans (hb_1.mono B0.size); obtain ⟨c0_1, c1_1, cf_1, cz_1⟩ := k_1.two')
        | fail)
      go_ret
      exact ⟨ret_int HR.out.symm, B_2⟩
  · have HR : Hid (ckR x y 0 m = 1) := Lib.hid (by unfold ckR; rw [if_pos (by omega)])
    go_enter Try.func67, Try.ntmps67
    go_wp2_with (first
      | (go_at_call 68; refine (btw_no _ _ _ _ hA).mono ?_; rintro e_1 w_1 ⟨rfl, hb_1⟩; have k_1 := k0.call hb_1; have B_1 := B0.trans (hb_1.mono B0.size); obtain ⟨c0_1, c1_1, cf_1, cz_1⟩ := k_1.two')
      | fail)
    go_ret
    exact ⟨ret_int HR.out.symm, B_1⟩
/-- The error of a barge, its holds, and when it leaves. -/
def ckBH (v : Vg) : Int := if ckBg v ≠ 0 then ckBg v else if ckHs v.hs ≠ 0 then ckHs v.hs else if ¬ (0 ≤ v.le ∧ v.le ≤ 2880) then 1 else 0
theorem ckBH_no {v : Vg} (h : ckBg v = 1) : ckBH v = 1 := by
  unfold ckBH
  rw [h]
  rfl
theorem ckBH_yes {v : Vg} (h : ckBg v = 0) : ckBH v = if ckHs v.hs ≠ 0 then ckHs v.hs else if ¬ (0 ≤ v.le ∧ v.le ≤ 2880) then 1 else 0 := by
  unfold ckBH
  rw [h]
  rfl
set_option maxRecDepth 100000 in
set_option maxHeartbeats 1600000 in
theorem refBarge_any (v : Vg) (p : Vp) (w : World) (hF : p.Fit) (hV : VoyAt w w.heap.size v p) : Calls Try.prog 65 #[.agg (vcs v p)] w fun e w' => e = .returned (.int .i64 (ckBH v)) ∧ Below w.heap.size w w' := by
  have k0 := Bx.new w 26 (vcs v p)
  have B0 := (Below.refl w.heap.size w).alloc (Nat.le_refl _) (.cells (vcs v p) 26)
  have HL := Lib.hid hV.hl
  have hA := hV.hs
  have hhn := hF.hn
  rw [vcs_def] at k0 B0 ⊢
  clear hV hF
  by_cases h1 : 0 ≤ v.li ∧ v.li ≤ 5000
  case neg =>
    have HR : Hid (ckBH v = 1) := Lib.hid (ckBH_no (by unfold ckBg; rw [if_neg (by omega)]))
    go_enter Try.func65, Try.ntmps65
    go_wp2_with (first
      | (go_at_call 68; refine (btw_no _ _ _ _ h1).mono ?_; rintro e_1 w_1 ⟨rfl, hb_1⟩; have k_1 := k0.call hb_1; have B_1 := B0.trans (hb_1.mono B0.size); obtain ⟨c0_1, c1_1, c2_1, c3_1, c4_1, c5_1, c6_1, cf_1, cz_1⟩ := k_1.seven)
      | fail)
    go_ret
    exact ⟨ret_int HR.out.symm, B_1⟩
  by_cases h2 : 0 ≤ v.un ∧ v.un ≤ 5000
  case neg =>
    have HR : Hid (ckBH v = 1) := Lib.hid (ckBH_no (by unfold ckBg; rw [if_neg (by omega)]))
    go_enter Try.func65, Try.ntmps65
    go_wp2_with (first
      | (go_at_call 68; have _t := hb_1; clear _t; refine (btw_no _ _ _ _ h2).mono ?_; rintro e_2 w_2 ⟨rfl, hb_2⟩; have k_2 := k_1.call hb_2; have B_2 := B_1.trans (hb_2.mono B_1.size); obtain ⟨c0_2, c1_2, c2_2, c3_2, c4_2, c5_2, c6_2, cf_2, cz_2⟩ := k_2.seven)
      | (go_at_call 68; refine (btw_yes _ _ _ _ h1).mono ?_; rintro e_1 w_1 ⟨rfl, hb_1⟩; have k_1 := k0.call hb_1; have B_1 := B0.trans (hb_1.mono B0.size); obtain ⟨c0_1, c1_1, c2_1, c3_1, c4_1, c5_1, c6_1, cf_1, cz_1⟩ := k_1.seven)
      | fail)
    go_ret
    exact ⟨ret_int HR.out.symm, B_2⟩
  by_cases h3 : 0 ≤ v.tr ∧ v.tr ≤ 5000
  case neg =>
    have HR : Hid (ckBH v = 1) := Lib.hid (ckBH_no (by unfold ckBg; rw [if_neg (by omega)]))
    go_enter Try.func65, Try.ntmps65
    go_wp2_with (first
      | (go_at_call 68; have _t := hb_2; clear _t; refine (btw_no _ _ _ _ h3).mono ?_; rintro e_3 w_3 ⟨rfl, hb_3⟩; have k_3 := k_2.call hb_3; have B_3 := B_2.trans (hb_3.mono B_2.size); obtain ⟨c0_3, c1_3, c2_3, c3_3, c4_3, c5_3, c6_3, cf_3, cz_3⟩ := k_3.seven)
      | (go_at_call 68; have _t := hb_1; clear _t; refine (btw_yes _ _ _ _ h2).mono ?_; rintro e_2 w_2 ⟨rfl, hb_2⟩; have k_2 := k_1.call hb_2; have B_2 := B_1.trans (hb_2.mono B_1.size); obtain ⟨c0_2, c1_2, c2_2, c3_2, c4_2, c5_2, c6_2, cf_2, cz_2⟩ := k_2.seven)
      | (go_at_call 68; refine (btw_yes _ _ _ _ h1).mono ?_; rintro e_1 w_1 ⟨rfl, hb_1⟩; have k_1 := k0.call hb_1; have B_1 := B0.trans (hb_1.mono B0.size); obtain ⟨c0_1, c1_1, c2_1, c3_1, c4_1, c5_1, c6_1, cf_1, cz_1⟩ := k_1.seven)
      | fail)
    go_ret
    exact ⟨ret_int HR.out.symm, B_3⟩
  have HR0 : Hid (ckBH v = if ckHs v.hs ≠ 0 then ckHs v.hs else if ¬ (0 ≤ v.le ∧ v.le ≤ 2880) then 1 else 0) := Lib.hid (ckBH_yes (by unfold ckBg; rw [if_pos (by omega)]))
  by_cases h7 : p.hn = 0
  · have HR : Hid (ckBH v = 7) := Lib.hid (by rw [HR0.out, show ckHs v.hs = 7 by unfold ckHs; rw [if_pos (by rw [HL.out]; omega)]]; rfl)
    have hb7 : ((p.hn : Int) == 0) = true := by rw [beq_iff_eq]; omega
    have H7 := Lib.hid h7
    clear h7
    go_enter Try.func65, Try.ntmps65
    go_wp2_with (first
      | (go_at_call 68; have _t := hb_2; clear _t; refine (btw_yes _ _ _ _ h3).mono ?_; rintro e_3 w_3 ⟨rfl, hb_3⟩; have k_3 := k_2.call hb_3; have B_3 := B_2.trans (hb_3.mono B_2.size); obtain ⟨c0_3, c1_3, c2_3, c3_3, c4_3, c5_3, c6_3, cf_3, cz_3⟩ := k_3.seven)
      | (go_at_call 68; have _t := hb_1; clear _t; refine (btw_yes _ _ _ _ h2).mono ?_; rintro e_2 w_2 ⟨rfl, hb_2⟩; have k_2 := k_1.call hb_2; have B_2 := B_1.trans (hb_2.mono B_1.size); obtain ⟨c0_2, c1_2, c2_2, c3_2, c4_2, c5_2, c6_2, cf_2, cz_2⟩ := k_2.seven)
      | (go_at_call 68; refine (btw_yes _ _ _ _ h1).mono ?_; rintro e_1 w_1 ⟨rfl, hb_1⟩; have k_1 := k0.call hb_1; have B_1 := B0.trans (hb_1.mono B0.size); obtain ⟨c0_1, c1_1, c2_1, c3_1, c4_1, c5_1, c6_1, cf_1, cz_1⟩ := k_1.seven)
      | fail)
    go_ret
    exact ⟨ret_int HR.out.symm, B_3⟩
  have hb7 : ((p.hn : Int) == 0) = false := by rw [beq_eq_false_iff_ne]; omega
  by_cases h6 : 3 < p.hn
  · have HR : Hid (ckBH v = 6) := Lib.hid (by rw [HR0.out, show ckHs v.hs = 6 by unfold ckHs; rw [if_neg (by rw [HL.out]; omega), if_pos (by rw [HL.out]; omega)]]; rfl)
    have hb6 : (3 : Int) < (p.hn : Int) := by omega
    go_enter Try.func65, Try.ntmps65
    go_wp2_with (first
      | (go_at_call 68; have _t := hb_2; clear _t; refine (btw_yes _ _ _ _ h3).mono ?_; rintro e_3 w_3 ⟨rfl, hb_3⟩; have k_3 := k_2.call hb_3; have B_3 := B_2.trans (hb_3.mono B_2.size); obtain ⟨c0_3, c1_3, c2_3, c3_3, c4_3, c5_3, c6_3, cf_3, cz_3⟩ := k_3.seven)
      | (go_at_call 68; have _t := hb_1; clear _t; refine (btw_yes _ _ _ _ h2).mono ?_; rintro e_2 w_2 ⟨rfl, hb_2⟩; have k_2 := k_1.call hb_2; have B_2 := B_1.trans (hb_2.mono B_1.size); obtain ⟨c0_2, c1_2, c2_2, c3_2, c4_2, c5_2, c6_2, cf_2, cz_2⟩ := k_2.seven)
      | (go_at_call 68; refine (btw_yes _ _ _ _ h1).mono ?_; rintro e_1 w_1 ⟨rfl, hb_1⟩; have k_1 := k0.call hb_1; have B_1 := B0.trans (hb_1.mono B0.size); obtain ⟨c0_1, c1_1, c2_1, c3_1, c4_1, c5_1, c6_1, cf_1, cz_1⟩ := k_1.seven)
      | fail)
    go_ret
    exact ⟨ret_int HR.out.symm, B_3⟩
  have hb6 : ¬ (3 : Int) < (p.hn : Int) := by omega
  have HRH : Hid (ckHs v.hs = ckHds v.hs) := Lib.hid (by unfold ckHs; rw [if_neg (by rw [HL.out]; omega), if_neg (by rw [HL.out]; omega)])
  go_enter Try.func65, Try.ntmps65
  go_wp2_with (first
    | (go_at_call 68; have _t := hb_2; clear _t; refine (btw_yes _ _ _ _ h3).mono ?_; rintro e_3 w_3 ⟨rfl, hb_3⟩; have k_3 := k_2.call hb_3; have B_3 := B_2.trans (hb_3.mono B_2.size); obtain ⟨c0_3, c1_3, c2_3, c3_3, c4_3, c5_3, c6_3, cf_3, cz_3⟩ := k_3.seven)
    | (go_at_call 68; have _t := hb_1; clear _t; refine (btw_yes _ _ _ _ h2).mono ?_; rintro e_2 w_2 ⟨rfl, hb_2⟩; have k_2 := k_1.call hb_2; have B_2 := B_1.trans (hb_2.mono B_1.size); obtain ⟨c0_2, c1_2, c2_2, c3_2, c4_2, c5_2, c6_2, cf_2, cz_2⟩ := k_2.seven)
    | (go_at_call 68; refine (btw_yes _ _ _ _ h1).mono ?_; rintro e_1 w_1 ⟨rfl, hb_1⟩; have k_1 := k0.call hb_1; have B_1 := B0.trans (hb_1.mono B0.size); obtain ⟨c0_1, c1_1, c2_1, c3_1, c4_1, c5_1, c6_1, cf_1, cz_1⟩ := k_1.seven)
    | fail)
  have hA3 := hA.below B_3
  clear c0_1 c1_1 c2_1 c3_1 c4_1 c5_1 c6_1 cf_1 cz_1 c0_2 c1_2 c2_2 c3_2 c4_2 c5_2 c6_2 cf_2 cz_2 c0_3 c1_3 c2_3 c3_3 c4_3 c5_3 c6_3 cf_3 cz_3
  have HBR := Lib.hid B_3
  go_loopw [3] (fun i wr => ∃ k : Nat, k ≤ p.hn ∧ i = .int .i64 k ∧ Hid (ckHds v.hs = ckHds (v.hs.drop k)) ∧ Below w_3.heap.size w_3 wr) (fun i _ => p.hn - (intOf i).toNat)
  case atStart => exact ⟨0, by omega, rfl, rfl, Below.refl _ _⟩
  case round =>
    obtain ⟨k, hk, rfl, hd, hB⟩ := hrel
    have kr := k_3.call hB
    have BR := B_3.trans (hB.mono B_3.size)
    obtain ⟨c0, c1, c2, c3, c4, c5, c6, cf, cz⟩ := kr.seven
    by_cases hkn : k < p.hn
    · have hke : k < v.hs.length := by rw [HL.out]; exact hkn
      have hAr := (hA.below BR).more BR.size
      obtain ⟨ad, hHA, _, q0, q1, q2⟩ := hd_at hAr hke
      have hds := ckHds_step hke
      generalize v.hs[k] = b at *
      rw [hHA] at c3
      have kh := Bx.new wr 85 #[.int .i64 b.rm, .int .i64 b.bw, .int .i64 b.st]
      have BH := BR.alloc BR.size (.cells #[.int .i64 b.rm, .int .i64 b.bw, .int .i64 b.st] 85)
      have BI := hB.alloc hB.size (.cells #[.int .i64 b.rm, .int .i64 b.bw, .int .i64 b.st] 85)
      have HHA := Lib.hid hHA
      clear hHA
      by_cases g1 : 0 ≤ b.rm ∧ b.rm ≤ 5000
      case neg =>
        have hd' : Hid (ckHds v.hs = 1) := Lib.hid (by rw [hd.out, hds, show ckHd b = 1 by unfold ckHd; rw [if_neg (by omega)]]; simp)
        have HR : Hid (ckBH v = 1) := Lib.hid (by rw [HR0.out, HRH.out, hd'.out]; rfl)
        clear hds
        go_wp2_with (first
          | (go_at_call 68; refine (btw_no _ _ _ _ g1).mono ?_; rintro e_11 w_11 ⟨rfl, hb_11⟩; have k_11 := kh.call hb_11; have B_11 := BH.trans (hb_11.mono BH.size); obtain ⟨c0_11, c1_11, c2_11, cf_11, cz_11⟩ := k_11.three')
          | fail)
        go_ret
        exact ⟨ret_int HR.out.symm, B_11⟩
      by_cases g2 : 0 ≤ b.bw ∧ b.bw ≤ 10000
      case neg =>
        have hd' : Hid (ckHds v.hs = 1) := Lib.hid (by rw [hd.out, hds, show ckHd b = 1 by unfold ckHd; rw [if_neg (by omega)]]; simp)
        have HR : Hid (ckBH v = 1) := Lib.hid (by rw [HR0.out, HRH.out, hd'.out]; rfl)
        clear hds
        go_wp2_with (first
          | (go_at_call 68; have _t := hb_11; clear _t; refine (btw_no _ _ _ _ g2).mono ?_; rintro e_12 w_12 ⟨rfl, hb_12⟩; have k_12 := k_11.call hb_12; have B_12 := B_11.trans (hb_12.mono B_11.size); obtain ⟨c0_12, c1_12, c2_12, cf_12, cz_12⟩ := k_12.three')
          | (go_at_call 68; refine (btw_yes _ _ _ _ g1).mono ?_; rintro e_11 w_11 ⟨rfl, hb_11⟩; have k_11 := kh.call hb_11; have B_11 := BH.trans (hb_11.mono BH.size); obtain ⟨c0_11, c1_11, c2_11, cf_11, cz_11⟩ := k_11.three')
          | fail)
        go_ret
        exact ⟨ret_int HR.out.symm, B_12⟩
      by_cases g3 : 0 ≤ b.st ∧ b.st ≤ 10000
      case neg =>
        have hd' : Hid (ckHds v.hs = 1) := Lib.hid (by rw [hd.out, hds, show ckHd b = 1 by unfold ckHd; rw [if_neg (by omega)]]; simp)
        have HR : Hid (ckBH v = 1) := Lib.hid (by rw [HR0.out, HRH.out, hd'.out]; rfl)
        clear hds
        go_wp2_with (first
          | (go_at_call 68; have _t := hb_12; clear _t; refine (btw_no _ _ _ _ g3).mono ?_; rintro e_13 w_13 ⟨rfl, hb_13⟩; have k_13 := k_12.call hb_13; have B_13 := B_12.trans (hb_13.mono B_12.size); obtain ⟨c0_13, c1_13, c2_13, cf_13, cz_13⟩ := k_13.three')
          | (go_at_call 68; have _t := hb_11; clear _t; refine (btw_yes _ _ _ _ g2).mono ?_; rintro e_12 w_12 ⟨rfl, hb_12⟩; have k_12 := k_11.call hb_12; have B_12 := B_11.trans (hb_12.mono B_11.size); obtain ⟨c0_12, c1_12, c2_12, cf_12, cz_12⟩ := k_12.three')
          | (go_at_call 68; refine (btw_yes _ _ _ _ g1).mono ?_; rintro e_11 w_11 ⟨rfl, hb_11⟩; have k_11 := kh.call hb_11; have B_11 := BH.trans (hb_11.mono BH.size); obtain ⟨c0_11, c1_11, c2_11, cf_11, cz_11⟩ := k_11.three')
          | fail)
        go_ret
        exact ⟨ret_int HR.out.symm, B_13⟩
      have hd' : Hid (ckHds v.hs = ckHds (v.hs.drop (k + 1))) := Lib.hid (by rw [hd.out, hds, show ckHd b = 0 by unfold ckHd; rw [if_pos (by omega)]]; simp)
      clear hds
      go_wp2_with (first
        | (go_at_call 68; have _t := hb_12; clear _t; refine (btw_yes _ _ _ _ g3).mono ?_; rintro e_13 w_13 ⟨rfl, hb_13⟩; have k_13 := k_12.call hb_13; have BI_13 := BI_12.trans (hb_13.mono BI_12.size); have B_13 := B_12.trans (hb_13.mono B_12.size); obtain ⟨c0_13, c1_13, c2_13, cf_13, cz_13⟩ := k_13.three')
        | (go_at_call 68; have _t := hb_11; clear _t; refine (btw_yes _ _ _ _ g2).mono ?_; rintro e_12 w_12 ⟨rfl, hb_12⟩; have k_12 := k_11.call hb_12; have BI_12 := BI_11.trans (hb_12.mono BI_11.size); have B_12 := B_11.trans (hb_12.mono B_11.size); obtain ⟨c0_12, c1_12, c2_12, cf_12, cz_12⟩ := k_12.three')
        | (go_at_call 68; refine (btw_yes _ _ _ _ g1).mono ?_; rintro e_11 w_11 ⟨rfl, hb_11⟩; have k_11 := kh.call hb_11; have BI_11 := BI.trans (hb_11.mono BI.size); have B_11 := BH.trans (hb_11.mono BH.size); obtain ⟨c0_11, c1_11, c2_11, cf_11, cz_11⟩ := k_11.three')
        | fail)
      go_roundw
      case rel => exact ⟨k + 1, by omega, by go_num, hd', BI_13⟩
      case measure => simp [intOf]; omega
    · have hd' : Hid (ckHds v.hs = 0) := by unfold Hid; rw [hd.out, List.drop_eq_nil_of_le (by rw [HL.out]; omega)]; rfl
      have HR1 : Hid (ckBH v = if ¬ (0 ≤ v.le ∧ v.le ≤ 2880) then 1 else 0) := Lib.hid (by rw [HR0.out, HRH.out, hd'.out]; rfl)
      by_cases h9 : 0 ≤ v.le ∧ v.le ≤ 2880
      · have HR : Hid (ckBH v = 0) := Lib.hid (by rw [HR1.out, if_neg (by simpa using h9)])
        go_wp2_with (first
          | (go_at_call 68; refine (btw_yes _ _ _ _ h9).mono ?_; rintro e_9 w_9 ⟨rfl, hb_9⟩; have B_9 := BR.trans (hb_9.mono BR.size))
          | fail)
        go_ret
        exact ⟨ret_int HR.out.symm, B_9⟩
      · have HR : Hid (ckBH v = 1) := Lib.hid (by rw [HR1.out, if_pos h9])
        go_wp2_with (first
          | (go_at_call 68; refine (btw_no _ _ _ _ h9).mono ?_; rintro e_9 w_9 ⟨rfl, hb_9⟩; have B_9 := BR.trans (hb_9.mono BR.size))
          | fail)
        go_ret
        exact ⟨ret_int HR.out.symm, B_9⟩
end Go.Proofs.Ytfcpjkofbejleaa
