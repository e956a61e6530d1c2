/- CopyVoyage 22: a copy in the making. -/
import Derived.Test.YtfcpjkofbejleaaYc
import Derived.Test.YtfcpjkofbejleaaMsM
import Derived.Test.YtfcpjkofbejleaaFsM
set_option linter.unusedSimpArgs false
set_option linter.unusedVariables false
namespace Go.Proofs.Ytfcpjkofbejleaa
open Go Go.RowKit
theorem sl_cells {w : World} {B s : Nat} {A : Option Addr} {xs : List (List Value)} (h : Sl w B s A xs) (hs : 0 < s ∧ ∀ r ∈ xs, r.length = s) : ∀ j u, xs.flatten[j]? = some u → ∃ ad, A = some ad ∧ w.cell? (ad.add j) = some u := by
  intro j u hu
  obtain ⟨k, r, i, rfl, h1, h2⟩ := flat_back hs.1 xs hs.2 j u hu
  obtain ⟨ad, e, _, h3⟩ := h k r h1
  have := h3 i u h2
  rw [add_add] at this
  exact ⟨ad, e, this⟩
theorem flat_lenS {s : Nat} : ∀ (xs : List (List Value)) (_ : ∀ r ∈ xs, r.length = s), xs.flatten.length = xs.length * s
  | [], _ => by simp
  | x :: xs, hs => by
    rw [List.flatten_cons, List.length_append, hs x (by simp), flat_lenS xs fun r hr => hs r (by simp [hr]), List.length_cons, Nat.succ_mul]; omega
theorem one_of {xs : List (List Value)} (h : ∀ r ∈ xs, ∀ u ∈ r, u.oneCell' = true) : ∀ u ∈ xs.flatten, u.oneCell' = true := fun u hu => by
  obtain ⟨r, hr, hu⟩ := List.mem_flatten.1 hu
  exact h r hr u hu
theorem hdr_one (l : List Hd) : ∀ r ∈ l.map hdr, ∀ u ∈ r, u.oneCell' = true := by
  intro r hr u hu
  obtain ⟨y, _, rfl⟩ := List.mem_map.1 hr
  simp [hdr] at hu
  rcases hu with rfl | rfl | rfl <;> rfl
theorem lvr_one (l : List Lv) : ∀ r ∈ l.map lvr, ∀ u ∈ r, u.oneCell' = true := by
  intro r hr u hu
  obtain ⟨y, _, rfl⟩ := List.mem_map.1 hr
  simp [lvr] at hu
  rcases hu with rfl | rfl | rfl <;> rfl
theorem cgr_one (l : List Cg) : ∀ r ∈ l.map cgr, ∀ u ∈ r, u.oneCell' = true := by
  intro r hr u hu
  obtain ⟨y, _, rfl⟩ := List.mem_map.1 hr
  simp [cgr] at hu
  rcases hu with rfl | rfl | rfl <;> rfl
/-- No two sills share their levels. -/
def Apt2 (rs : List (List Value)) : Prop := ∀ (i j : Nat) (r s : List Value) (u v : Value), i < j → rs[i]? = some r → rs[j]? = some s → r[2]? = some u → s[2]? = some v → u.ownBlock = none ∨ u.ownBlock ≠ v.ownBlock
theorem Apt2.snoc {w w' : World} {B : Nat} {rs : List (List Value)} {ss : List Si} {A : Option Addr} {n c : Nat} {xs : List Value} (h : Apt2 rs) (hb : SisOwn w B rs ss) (o : w'.ownsRow w.heap.size 75 3 (.slice A n c) n xs) (x y : Value) : Apt2 (rs ++ [[x, y, .slice A n c]]) := by
  intro i j r s u v hij hi hj hu hv
  by_cases hjl : j < rs.length
  · rw [List.getElem?_append_left (by omega)] at hi
    rw [List.getElem?_append_left hjl] at hj
    exact h i j r s u v hij hi hj hu hv
  · have hj2 : j < (rs ++ [[x, y, Value.slice A n c]]).length := (List.getElem?_eq_some_iff.1 hj).1
    obtain rfl : j = rs.length := by simp at hj2; omega
    rw [List.getElem?_append_left hij] at hi
    rw [List.getElem?_concat_length, Option.some.injEq] at hj
    subst hj
    simp only [List.getElem?_cons_succ, List.getElem?_cons_zero, Option.some.injEq] at hv
    subst hv
    have hib : i < ss.length := by rw [← hb.len]; exact hij
    obtain ⟨A2, C2, rfl, o2⟩ := hb.row i r _ hi (List.getElem?_eq_getElem hib)
    simp only [List.getElem?_cons_succ, List.getElem?_cons_zero, Option.some.injEq] at hu
    subst hu
    cases e : (Value.slice A2 ss[i].lv.length C2).ownBlock with
    | none => exact .inl rfl
    | some k =>
      refine .inr fun e2 => ?_
      have h1 := (o2.lt k e).2
      have h2 := (o.lt k e2.symm).1
      omega
/-- A copy of a voyage in the making: its box q behind V. -/
structure CV (V : World) (q : Nat) (li un tr le : Int) (hs : List Hd) (ss : List Si) (ls : List Cg) (hv sv lv : Value) (rs : List (List Value)) (wr : World) : Prop where
  k : Bx wr q 26 #[.int .i64 li, .int .i64 un, .int .i64 tr, hv, .int .i64 le, sv, lv]
  oh : wr.ownsRow V.heap.size 85 3 hv hs.length (hs.map hdr).flatten
  os : wr.ownsRow V.heap.size 73 3 sv ss.length rs.flatten
  so : SisOwn wr V.heap.size rs ss
  ap : Apt2 rs
  ol : wr.ownsRow V.heap.size 70 3 lv ls.length (ls.map cgr).flatten
  hb : Below V.heap.size V wr
  hq : V.heap.size ≤ q
theorem SisOwn.bel {w w' : World} {base : Nat} {rs : List (List Value)} {ss : List Si} (h : SisOwn w base rs ss) (hb : Below w.heap.size w w') : SisOwn w' base rs ss :=
  ⟨h.len, fun j r b hr hb' => by obtain ⟨A, c, e, o⟩ := h.row j r b hr hb'; exact ⟨A, c, e, own_bel o hb⟩⟩
section
variable {V wr x : World} {q : Nat} {li un tr le : Int} {hs : List Hd} {ss : List Si} {ls : List Cg} {hv sv lv : Value} {rs : List (List Value)}
theorem CV.bel (h : CV V q li un tr le hs ss ls hv sv lv rs wr) (k : Below wr.heap.size wr x) : CV V q li un tr le hs ss ls hv sv lv rs x :=
  ⟨h.k.call k, own_bel h.oh k, own_bel h.os k, h.so.bel k, h.ap, own_bel h.ol k, h.hb.trans (k.mono h.hb.size), h.hq⟩
theorem CV.sill (h : CV V q li un tr le hs ss ls hv sv lv rs wr) {A : Option Addr} {n c : Nat} {y : Si} {v' : Value} (k : wr.grownBy x sv.ownBlock) (o : x.ownsRow V.heap.size 73 3 v' (ss.length + 1) (rs.flatten ++ [.int .i64 y.t0, .int .i64 y.t1, .slice A n c])) (hn : y.lv.length = n) (hr : wr.ownsRow V.heap.size 75 3 (.slice A n c) n (y.lv.map lvr).flatten) (ha : Apt2 (rs ++ [[.int .i64 y.t0, .int .i64 y.t1, .slice A n c]])) :
    CV V q li un tr le hs (ss ++ [y]) ls hv v' lv (rs ++ [[.int .i64 y.t0, .int .i64 y.t1, .slice A n c]]) (x.setCell ⟨q, 5, none⟩ v') := by
  have kq := h.k.grown k (own_bx h.os h.k (by decide))
  have oh' := h.oh.kept k (own_ne h.oh h.os (by decide))
  have ol' := h.ol.kept k (own_ne h.ol h.os (by decide))
  subst hn
  refine ⟨?_, own_set oh' (own_bx oh' kq (by decide)) _, ?_, ?_, ha, own_set ol' (own_bx ol' kq (by decide)) _, (h.hb.grown k h.hb.size (fun i e => (h.os.lt i e).1)).setCell h.hq _, h.hq⟩
  · have := kq.set_ 5 v'; simpa using this
  · rw [List.length_append, rows_snoc]
    exact own_set o (own_bx o kq (by decide)) _
  · exact ((h.so.snoc ⟨A, c, rfl, hr⟩).own h.os k (by decide)).set_ kq (by decide) 5 v'
end
end Go.Proofs.Ytfcpjkofbejleaa

/-! swarflaw07.wide. -/
namespace Go.Proofs.Ytfcpjkofbejleaa
open Go Go.RowKit
/-- A voyage with short lists. -/
structure Vg.Slim (v : Vg) : Prop where
  h20 : v.hs.length ≤ 20
  s20 : v.ss.length ≤ 20
  l20 : v.ls.length ≤ 20
  v20 : ∀ s ∈ v.ss, s.lv.length ≤ 20
set_option maxRecDepth 100000 in
set_option maxHeartbeats 4000000 in
theorem wide_any (v : Vg) (p : Vp) (w : World) (hF : p.Fit) (hLF : LvFit v) (hV0 : VoyAt w w.heap.size v p) :
    Calls Try.prog 14 #[.agg (vcs v p)] w fun e w' => (∃ hb : Bool, e = .returned (.bool hb) ∧ (hb = false → v.Slim)) ∧ Below w.heap.size w w' := by
  have k1 := Bx.new w 26 (vcs v p)
  have B0 := (Below.refl w.heap.size w).alloc (Nat.le_refl _) (.cells (vcs v p) 26)
  have hA1 := hV0.call B0
  have hhn := hF.hn
  have hsn := hF.sn
  have hln := hF.ln
  rw [vcs_def] at k1 B0 hA1 ⊢
  obtain ⟨V, hV⟩ : ∃ V, w.alloc (.cells #[.int .i64 v.li, .int .i64 v.un, .int .i64 v.tr, .slice p.HA p.hn p.hc, .int .i64 v.le, .slice p.SA p.sn p.sc, .slice p.LA p.ln p.lc] 26) = V := ⟨_, rfl⟩
  rw [hV] at k1 B0 hA1
  have HH := Lib.hid hV0.hl
  have HS := Lib.hid hV0.sl
  have HL := Lib.hid hV0.ll
  have HLF := Lib.hid hLF
  have HV := Lib.hid hV
  clear hV hV0 hLF hF
  obtain ⟨l0, l1, l2, l3, l4, l5, l6, lf', lz⟩ := k1.seven
  go_enter Try.func14, Try.ntmps14
  go_upto_region 1 with fail
  rw [HV.out]
  go_wp2_with fail
  go_loopw [3] (fun x wr => ∃ (i : Nat), x = .int .i64 i ∧ i ≤ p.sn ∧ i ≤ 20 ∧ Hid (∀ j b, j < i → v.ss[j]? = some b → b.lv.length ≤ 20) ∧ wr = V) (fun x _ => p.sn - (intOf x).toNat)
  case atStart => exact ⟨0, rfl, by omega, by omega, Lib.hid (fun j b h => by omega), rfl⟩
  case round =>
    obtain ⟨i, rfl, hi, hi20, hh, rfl⟩ := hrel
    by_cases hin : i < p.sn
    · by_cases h20 : i < 20
      · have hil : i < v.ss.length := by rw [HS.out]; exact hin
        have hiw : IntKind.i64.wrap ((i : Int) + 1) = (i : Int) + 1 := IntWalk.i64_in _ (by omega)
        have h20i : (i : Int) < 20 := by omega
        obtain ⟨ba, G, gc, hSA, hba, p0, p1, p2, hgc, -⟩ := hA1.ss.at_ hil
        obtain ⟨b, hbe⟩ : ∃ b, v.ss[i] = b := ⟨_, rfl⟩
        rw [hbe] at p0 p1 p2
        obtain ⟨gl, hgl⟩ : ∃ k, b.lv.length = k := ⟨_, rfl⟩
        rw [hgl] at p2
        have HBE := Lib.hid (And.intro hbe hgl)
        rw [hSA] at l5
        clear hbe hgl hgc
        by_cases hg : 20 < gl
        · have d : decide ((20 : Int) < (gl : Int)) = true := by simp; omega
          clear hg
          go_wp2_with fail
          go_ret
          exact ⟨⟨true, rfl, fun h => by cases h⟩, B0⟩
        · have d : decide ((20 : Int) < (gl : Int)) = false := by simp; omega
          have hnx : ∀ j b, j < i + 1 → v.ss[j]? = some b → b.lv.length ≤ 20 := fun j b' hj hb => by
            by_cases e : j = i
            · subst e
              rw [List.getElem?_eq_getElem hil, HBE.out.1, Option.some.injEq] at hb
              subst hb
              rw [HBE.out.2]; omega
            · exact hh.out j b' (by omega) hb
          have HN := Lib.hid hnx
          clear hg hnx
          go_wp2_with fail
          go_roundw
          case rel => exact ⟨i + 1, by go_num, by omega, by omega, HN, by trivial⟩
          case measure => simp [intOf]; omega
      · have e20 : i = 20 := by omega
        subst e20
        have hn20 : decide ((20 : Int) < 20) = false := by decide
        by_cases hl20 : 20 < p.hn
        · have d : decide ((20 : Int) < (p.hn : Int)) = true := by simp; omega
          clear hl20
          go_wp2_with fail
          go_ret
          exact ⟨⟨true, rfl, fun h => by cases h⟩, B0⟩
        · have d : decide ((20 : Int) < (p.hn : Int)) = false := by simp; omega
          have d2 : decide ((20 : Int) < (p.sn : Int)) = true := by simp; omega
          clear hl20
          go_wp2_with fail
          go_ret
          exact ⟨⟨true, rfl, fun h => by cases h⟩, B0⟩
    · obtain rfl : i = p.sn := by omega
      by_cases hl20 : 20 < p.hn
      · have d : decide ((20 : Int) < (p.hn : Int)) = true := by simp; omega
        clear hl20
        go_wp2_with fail
        go_ret
        exact ⟨⟨true, rfl, fun h => by cases h⟩, B0⟩
      · have d : decide ((20 : Int) < (p.hn : Int)) = false := by simp; omega
        by_cases hb20 : 20 < p.sn
        · have d2 : decide ((20 : Int) < (p.sn : Int)) = true := by simp; omega
          clear hb20
          go_wp2_with fail
          go_ret
          exact ⟨⟨true, rfl, fun h => by cases h⟩, B0⟩
        · have d2 : decide ((20 : Int) < (p.sn : Int)) = false := by simp; omega
          by_cases hc20 : 20 < p.ln
          · have d3 : decide ((20 : Int) < (p.ln : Int)) = true := by simp; omega
            clear hc20
            go_wp2_with fail
            go_ret
            exact ⟨⟨true, rfl, fun h => by cases h⟩, B0⟩
          · have d3 : decide ((20 : Int) < (p.ln : Int)) = false := by simp; omega
            have hfin : v.Slim := ⟨by have := HH.out; omega, by have := HS.out; omega, by have := HL.out; omega, fun b hb => by
              obtain ⟨j, hj⟩ := List.getElem?_of_mem hb
              exact hh.out j b (by have h9 := (List.getElem?_eq_some_iff.1 hj).1; rw [HS.out] at h9; omega) hj⟩
            have HF := Lib.hid hfin
            clear hl20 hb20 hc20 hfin
            go_wp2_with fail
            go_ret
            exact ⟨⟨false, rfl, fun _ => HF.out⟩, B0⟩
end Go.Proofs.Ytfcpjkofbejleaa

/-! ShipTrue. -/
namespace Go.Proofs.Ytfcpjkofbejleaa
open Go Go.RowKit
theorem Bx.two' {w : World} {g : Nat} {t : TypeId} {a b : Value} (k : Bx w g t #[a, b]) : w.cell? ⟨g, 0, none⟩ = some a ∧ w.cell? ⟨g, 1, none⟩ = some b ∧ (∀ o, w.frozen? ⟨g, o, none⟩ = false) ∧ g < w.heap.size :=
  ⟨k.cell 0, k.cell 1, k.free, k.lt⟩
end Go.Proofs.Ytfcpjkofbejleaa
