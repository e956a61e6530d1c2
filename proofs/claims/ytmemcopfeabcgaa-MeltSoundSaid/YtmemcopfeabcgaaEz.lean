/- Easier orders: mathematics; orders made easier in memory. -/
import Derived.Test.YtmemcopfeabcgaaMs
set_option linter.unusedSimpArgs false
set_option linter.unusedVariables false
namespace Go.Proofs.Ytmemcopfeabcgaa
open Go Go.RowKit
/-- An order that is easier than another one. -/
structure Easier (o x : Od) : Prop where
  lm : x.lm.length = o.lm.length
  li : ∀ j, o.li j ≤ x.li j
  le : x.le ≤ o.le
  mo : o.mo ≤ x.mo
  bs : x.bs.length = o.bs.length
  w : ∀ i, (x.bn i).w = (o.bn i).w
  c : ∀ i, (x.bn i).c ≤ (o.bn i).c
  g : ∀ i, (o.bn i).g ≤ (x.bn i).g
  g2 : ∀ i j, (x.bn i).g2 j ≤ (o.bn i).g2 j
theorem Easier.kil {o x : Od} (h : Easier o x) (b : Nat → Int) (n : Nat) : kil x b n = kil o b n := sm_congr fun i _ => by rw [h.w]
theorem Easier.cst {o x : Od} (h : Easier o x) {b : Nat → Int} (hb : Six b) (n : Nat) : cst x b n ≤ cst o b n := sm_mono fun i _ => Int.mul_le_mul_of_nonneg_left (h.c i) (hb i).1
theorem Easier.exX {o x : Od} (h : Easier o x) (ho : o.Ok) {b : Nat → Int} (hb : Six b) (j : Nat) {n : Nat} (hn : n ≤ o.bs.length) : exX x b j n ≤ exX o b j n := by
  refine sm_mono fun i hi => ?_
  rw [h.w]
  refine Int.mul_le_mul_of_nonneg_left ?_ (w_bd ho hb (by omega)).1
  have := h.g2 i j
  have := h.li j
  omega
theorem kv_one {o : Od} (ho : o.Ok) {b : Nat → Int} (hb : Six b) : kv o b = 1 ↔ ∀ j, j < o.lm.length → exX o b j o.bs.length ≤ 0 := by
  constructor
  · intro h j hj
    unfold kv at h
    split at h
    · simp at h
    · split at h
      · simp at h
      · rename_i hx
        simp only [xk, List.any_eq_true, List.mem_range, decide_eq_true_eq, not_exists, not_and, Int.not_lt] at hx
        exact hx j hj
  · intro h
    have hx : ¬ xk o b o.lm.length = true := by
      simp only [xk, List.any_eq_true, List.mem_range, decide_eq_true_eq, not_exists, not_and, Int.not_lt]
      exact h
    have hn : ¬ nk o b o.lm.length = true := by
      simp only [nk, List.any_eq_true, List.mem_range, decide_eq_true_eq, not_exists, not_and, Int.not_lt]
      intro j hj
      have h1 := exN_exX ho hb (j := j) (Nat.le_refl _)
      have h2 := h j hj
      omega
    unfold kv
    rw [if_neg hn, if_neg hx]
theorem mx_g (o : Od) (i : Nat) : o.mx i = (o.bn i).g := rfl
theorem Easier.good {o x : Od} (h : Easier o x) (ho : o.Ok) (hx : x.Ok) {b : Nat → Int} (hb : Six b) (hg : Good o b) : Good x b := by
  obtain ⟨h1, h2, h3⟩ := hg
  have a1 := h.le
  have a2 := h.mo
  refine ⟨by rw [h.bs, h.kil]; omega, by rw [h.bs, h.kil]; omega, (kv_one hx hb).2 fun j hj => ?_⟩
  have h4 := (kv_one ho hb).1 h3 j (by rw [← h.lm]; exact hj)
  have h5 := h.exX ho hb j (Nat.le_refl o.bs.length)
  rw [h.bs]
  omega
/-- The cheapest blend of an easier order costs no more. -/
theorem Easier.cheap {o x : Od} (h : Easier o x) (ho : o.Ok) (hx : x.Ok) {d : Nat → Int} {r : Option (Nat → Int)} (h1 : Cheap o (some d)) (h2 : Cheap x r) : ∃ d', r = some d' ∧ Go.Proofs.Ytmemcopfeabcgaa.cst x d' o.bs.length ≤ Go.Proofs.Ytmemcopfeabcgaa.cst o d o.bs.length := by
  obtain ⟨hi, -, hg, -⟩ := h1
  have h6 := hi.six4 ho.mx
  have e4 : ∀ i, i < 4 → cl4 d i = d i := fun i hi => cl4_eq d hi
  have hg6 : Good o (cl4 d) := (good_four ho.b2 e4).2 hg
  have gx := h.good ho hx h6 hg6
  have ix : InB zer x.mx (cl4 d) := fun i hi4 => by
    rw [e4 i hi4]
    have a := hi i hi4
    have b := h.g i
    rw [mx_g] at a ⊢
    exact ⟨a.1, Int.le_trans a.2 b⟩
  cases r with
  | none => exact absurd gx (h2 _ ix (rk_lt ix))
  | some d' =>
    refine ⟨d', rfl, ?_⟩
    have k1 := (h2.2.2.2 _ ix (rk_lt ix) gx).1
    have k2 := h.cst h6 o.bs.length
    rw [h.bs] at k1
    have k3 := cst_four (o := o) ho.b2 e4
    omega
/-- No two bins share their grams. -/
def Apt (rs : List (List Value)) : Prop := ∀ (i j : Nat) (r s : List Value) (u v : Value), i < j → rs[i]? = some r → rs[j]? = some s → r[0]? = some u → s[0]? = some v → u.ownBlock = none ∨ u.ownBlock ≠ v.ownBlock
theorem Apt.nil : Apt [] := fun i j r s u v _ h => by simp at h
theorem Apt.snoc {w w' : World} {B : Nat} {rs : List (List Value)} {bs : List Bn} {A : Option Addr} {n c : Nat} {xs : List Value} (h : Apt rs) (hb : BinsOwn w B rs bs) (o : w'.ownsRow w.heap.size 39 2 (.slice A n c) n xs) (x y z : Value) : Apt (rs ++ [[.slice A n c, x, y, z]]) := by
  intro i j r s u v hij hi hj hu hv
  by_cases hjl : j < rs.length
  · rw [List.getElem?_append_left (by omega)] at hi
    rw [List.getElem?_append_left hjl] at hj
    exact h i j r s u v hij hi hj hu hv
  · have hj2 : j < (rs ++ [[.slice A n c, x, y, z]]).length := (List.getElem?_eq_some_iff.1 hj).1
    obtain rfl : j = rs.length := by simp at hj2; omega
    rw [List.getElem?_append_left hij] at hi
    rw [List.getElem?_concat_length, Option.some.injEq] at hj
    subst hj
    simp only [List.getElem?_cons_zero, Option.some.injEq] at hv
    subst hv
    have hib : i < bs.length := by rw [← hb.len]; exact hij
    obtain ⟨A2, C2, rfl, o2⟩ := hb.row i r _ hi (List.getElem?_eq_getElem hib)
    simp only [List.getElem?_cons_zero, Option.some.injEq] at hu
    subst hu
    cases e : (Value.slice A2 bs[i].gr.length C2).ownBlock with
    | none => exact .inl rfl
    | some k =>
      refine .inr fun e2 => ?_
      have h1 := (o2.lt k e).2
      have h2 := (o.lt k e2.symm).1
      omega
set_option maxRecDepth 100000 in
set_option maxHeartbeats 8000000 in
theorem copyOrder_apt (LA : Option Addr) (ln lc : Nat) (BA : Option Addr) (bn bc : Nat) (o : Od) (w : World) (hl : o.lm.length = ln) (hb' : o.bs.length = bn) (hA : OrdAt w w.heap.size LA BA o) (ho : o.Ok) :
    Calls Try.prog 31 #[.agg #[.slice LA ln lc, .int .i64 o.le, .int .i64 o.mo, .slice BA bn bc]] w fun e w' => ∃ (XA : Option Addr) (xc : Nat) (YA : Option Addr) (yc : Nat) (rs : List (List Value)), e = .returned (.agg #[.slice XA ln xc, .int .i64 o.le, .int .i64 o.mo, .slice YA bn yc]) ∧ w'.ownsRow w.heap.size 3 1 (.slice XA ln xc) ln (inr o.lm).flatten ∧ w'.ownsRow w.heap.size 42 4 (.slice YA bn yc) bn rs.flatten ∧ BinsOwn w' w.heap.size rs o.bs ∧ Below w.heap.size w w' ∧ Apt rs := by
  obtain ⟨i42, hi42, hz42, hs42, iy42⟩ := info_parts info42
  have hln3 : ln ≤ 3 := by rw [← hl]; exact ho.lm
  have hbn4 : bn ≤ 4 := by rw [← hb']; exact ho.b2
  have k1 := ((Bx.new w 27 #[.slice LA ln lc, .int .i64 o.le, .int .i64 o.mo, .slice BA bn bc]).alloc (.cells #[.slice none 0 0, .int .i64 0, .int .i64 0, .slice none 0 0] 27)).alloc (.cells #[.slice LA ln lc, .int .i64 o.le, .int .i64 o.mo, .slice BA bn bc] 27)
  have k2 := (Bx.at (w.alloc (.cells #[.slice LA ln lc, .int .i64 o.le, .int .i64 o.mo, .slice BA bn bc] 27)) 27 #[.slice none 0 0, .int .i64 0, .int .i64 0, .slice none 0 0] (n := w.heap.size + 1) (by simp)).alloc (.cells #[.slice LA ln lc, .int .i64 o.le, .int .i64 o.mo, .slice BA bn bc] 27)
  have k3 := Bx.at ((w.alloc (.cells #[.slice LA ln lc, .int .i64 o.le, .int .i64 o.mo, .slice BA bn bc] 27)).alloc (.cells #[.slice none 0 0, .int .i64 0, .int .i64 0, .slice none 0 0] 27)) 27 #[.slice LA ln lc, .int .i64 o.le, .int .i64 o.mo, .slice BA bn bc] (n := w.heap.size + 1 + 1) (by simp)
  have B0 := (((Below.refl w.heap.size w).alloc (Nat.le_refl _) (.cells #[.slice LA ln lc, .int .i64 o.le, .int .i64 o.mo, .slice BA bn bc] 27)).alloc (by simp) (.cells #[.slice none 0 0, .int .i64 0, .int .i64 0, .slice none 0 0] 27)).alloc (by simp; omega) (.cells #[.slice LA ln lc, .int .i64 o.le, .int .i64 o.mo, .slice BA bn bc] 27)
  have HLN := Lib.hid hl
  have HBN := Lib.hid hb'
  have HOK := Lib.hid ho
  clear hl hb' ho
  go_enter Try.func31, Try.ntmps31
  go_upto_region 2 with fail
  obtain ⟨V, hV⟩ : ∃ V, ((w.alloc (.cells #[.slice LA ln lc, .int .i64 o.le, .int .i64 o.mo, .slice BA bn bc] 27)).alloc (.cells #[.slice none 0 0, .int .i64 0, .int .i64 0, .slice none 0 0] 27)).alloc (.cells #[.slice LA ln lc, .int .i64 o.le, .int .i64 o.mo, .slice BA bn bc] 27) = V := ⟨_, rfl⟩
  rw [hV] at k1 k2 k3 B0 ⊢
  clear hV
  have hAV := (hA.below B0).more B0.size
  obtain ⟨l0, l1, l2, l3, lf', lz⟩ := k1.four
  obtain ⟨q0, q1, q2, q3, qf, qz⟩ := k3.four
  go_upto_region 3 with (first
    | (go_at_call 34; refine (ints34_any LA ln lc o.lm _ (by omega) HLN.out hAV.lm).mono ?_; rintro e w1 ⟨⟨XA, xc, rfl, ox⟩, hb1⟩; replace k1 := k1.call hb1; replace k2 := k2.call hb1; replace k3 := k3.call hb1; have B1 := B0.trans (hb1.mono B0.size); clear l0 l1 l2 l3 lf' lz q0 q1 q2 q3 qf qz; obtain ⟨l0, l1, l2, l3, lf', lz⟩ := k1.four; obtain ⟨q0, q1, q2, q3, qf, qz⟩ := k3.four)
    | fail)
  clear l0 l1 l2 l3 lf' lz q0 q1 q2 q3 qf qz
  have z1 := k3.lt
  have hVs := B0.size
  have ox1 := ownsRow_up (b' := w.heap.size) ox (fun k e => Nat.le_trans hVs (ox.lt k e).1)
  have ox2 := own_set (own_set ox1 (own_bx ox1 k3 (by decide)) (o := 0) (.slice XA ln xc)) (own_bx ox1 k3 (by decide)) (o := 3) (.slice none 0 0)
  have k3' := (k3.set_ 0 (.slice XA ln xc)).set_ 3 (.slice none 0 0)
  have k1' := (k1.far (p := ⟨w.heap.size + 1 + 1, 0, none⟩) (by simp; try omega) (.slice XA ln xc)).far (p := ⟨w.heap.size + 1 + 1, 3, none⟩) (by simp; try omega) (.slice none 0 0)
  have k2' := (k2.far (p := ⟨w.heap.size + 1 + 1, 0, none⟩) (by simp; try omega) (.slice XA ln xc)).far (p := ⟨w.heap.size + 1 + 1, 3, none⟩) (by simp; try omega) (.slice none 0 0)
  have B2 := (B1.setCell (p := ⟨w.heap.size + 1 + 1, 0, none⟩) (by simp; try omega) (.slice XA ln xc)).setCell (p := ⟨w.heap.size + 1 + 1, 3, none⟩) (by simp; try omega) (.slice none 0 0)
  obtain ⟨X, hX⟩ : ∃ X, (w1.setCell ⟨w.heap.size + 1 + 1, 0, none⟩ (.slice XA ln xc)).setCell ⟨w.heap.size + 1 + 1, 3, none⟩ (.slice none 0 0) = X := ⟨_, rfl⟩
  rw [hX] at ox2 k1' k2' k3' B2 ⊢
  have C0 : CI w o.lm [] o.le o.mo (.slice XA ln xc) (.slice none 0 0) [] (w.heap.size + 1 + 1) X := ⟨by simpa using k3', by rw [HLN.out]; exact ox2, World.ownsRow_nil _ _ _ _, .nil _ _, B2, by omega⟩
  clear hX ox ox1 ox2 k1 k2 k3 k3' B2 B1 B0 hb1 z1 hVs hAV
  go_wp2_with fail
  go_loopw [4] (fun v wr => ∃ (i : Nat) (bv : Value) (rs : List (List Value)), v = .int .i64 i ∧ i ≤ bn ∧ Apt rs ∧ CI w o.lm (o.bs.take i) o.le o.mo (.slice XA ln xc) bv rs (w.heap.size + 1 + 1) wr ∧ Bx wr w.heap.size 27 #[.slice LA ln lc, .int .i64 o.le, .int .i64 o.mo, .slice BA bn bc] ∧ Bx wr (w.heap.size + 1) 27 #[.slice none 0 0, .int .i64 0, .int .i64 0, .slice none 0 0]) (fun v _ => bn - (intOf v).toNat)
  case atStart => exact ⟨0, .slice none 0 0, [], rfl, by omega, .nil, by simpa using C0, k1', k2'⟩
  case round =>
    clear C0 k1' k2'
    obtain ⟨i, bv, rs, rfl, hi, hap, C, k1, k2⟩ := hrel
    obtain ⟨YA, yc, rfl⟩ := own_shape C.ob
    obtain ⟨l0, l1, l2, l3, lf', lz⟩ := k1.four
    by_cases hin : i < bn
    · have hil : i < o.bs.length := by rw [HBN.out]; exact hin
      have hti : (o.bs.take i).length = i := by simp; omega
      have hbo := HOK.out.bs _ (List.getElem_mem hil)
      obtain ⟨ad, G, gc, rfl, -, p0, p1, p2, p3, hgs⟩ := (hA.call C.hb).bs.at_ hil
      obtain ⟨b, hb⟩ : ∃ b, o.bs[i] = b := ⟨_, rfl⟩
      rw [hb] at p0 p1 p2 p3 hgs hbo
      have hgl := hbo.len
      rw [HLN.out] at hgl
      rw [hgl] at p0
      have HBI := Lib.hid hb
      have HGL := Lib.hid hgl
      have HTI := Lib.hid hti
      have hjw : IntKind.i64.wrap ((i : Int) + 1) = (i : Int) + 1 := IntWalk.i64_in _ (by omega)
      clear hb hbo hgl
      rw [hti] at C
      go_upto_region 7 with fail
      clear l0 l1 l2 l3 lf' lz p0 p1 p2 p3
      obtain ⟨wt, hwt⟩ : ∃ x, b.w = x := ⟨_, rfl⟩
      obtain ⟨ct, hct⟩ : ∃ x, b.c = x := ⟨_, rfl⟩
      obtain ⟨gt, hgt⟩ : ∃ x, b.g = x := ⟨_, rfl⟩
      rw [hwt, hct, hgt]
      have HW := Lib.hid (And.intro hwt (And.intro hct hgt))
      clear hwt hct hgt
      have hk := Bx.new wr 42 #[.slice G ln gc, .int .i64 wt, .int .i64 ct, .int .i64 gt]
      have C1 := C.bel ((Below.refl _ _).alloc (Nat.le_refl _) (.cells #[.slice G ln gc, .int .i64 wt, .int .i64 ct, .int .i64 gt] 42))
      have hg1 := hgs.call ((Below.refl _ _).alloc (Nat.le_refl _) (.cells #[.slice G ln gc, .int .i64 wt, .int .i64 ct, .int .i64 gt] 42))
      have k11 := k1.alloc (.cells #[.slice G ln gc, .int .i64 wt, .int .i64 ct, .int .i64 gt] 42)
      have k21 := k2.alloc (.cells #[.slice G ln gc, .int .i64 wt, .int .i64 ct, .int .i64 gt] 42)
      have hwp : w.heap.size ≤ wr.heap.size := C.hb.size
      obtain ⟨Y, hY⟩ : ∃ Y, wr.alloc (.cells #[.slice G ln gc, .int .i64 wt, .int .i64 ct, .int .i64 gt] 42) = Y := ⟨_, rfl⟩
      rw [hY] at hk C1 hg1 k11 k21 ⊢
      have hq3 := C.k.lt
      obtain ⟨p, hp⟩ : ∃ p, wr.heap.size = p := ⟨_, rfl⟩
      have hpo : some p ≠ (Value.slice YA i yc).ownBlock := fun h => by have := (C.ob.lt _ h.symm).2; omega
      rw [hp] at hk hwp hq3 ⊢
      clear hY hp C k1 k2 hgs
      obtain ⟨b0, b1, b2, b3, bf, bz⟩ := hk.four
      go_upto_region 8 with (first
        | (go_at_call 69; refine (ranges_any G ln gc b.gr _ (by omega) HGL.out hg1).mono ?_; rintro e y2 ⟨⟨RA, rc, rfl, og⟩, hq⟩; replace hk := hk.call hq; clear b0 b1 b2 b3 bf bz; obtain ⟨b0, b1, b2, b3, bf, bz⟩ := hk.four)
        | fail)
      clear b0 b1 b2 b3 bf bz
      have C2 := C1.bel hq
      have hap2 := Lib.hid (hap.snoc C1.bo og (.int .i64 wt) (.int .i64 ct) (.int .i64 gt))
      have k12 := (k11.call hq).far (p := ⟨p, 0, none⟩) (by simp; omega) (.slice RA ln rc)
      have k22 := (k21.call hq).far (p := ⟨p, 0, none⟩) (by simp; omega) (.slice RA ln rc)
      have hy1 := C1.hb.size
      have og1 := ownsRow_up (b' := w.heap.size) og (fun k e => Nat.le_trans hy1 (og.lt k e).1)
      have og2 := own_set og1 (own_bx og1 hk (by decide)) (o := 0) (.slice RA ln rc)
      have C3 : CI w o.lm (o.bs.take i) o.le o.mo (.slice XA ln xc) (.slice YA i yc) rs (w.heap.size + 1 + 1) (y2.setCell ⟨p, 0, none⟩ (.slice RA ln rc)) := by
        exact ⟨C2.k.far (by simp; omega) _, own_set C2.ol (own_bx C2.ol hk (by decide)) _, own_set C2.ob hpo _, C2.bo.set_ hk (by decide) 0 _, C2.hb.setCell hwp _, C2.hq⟩
      have hk2 : Bx (y2.setCell ⟨p, 0, none⟩ (.slice RA ln rc)) p 42 #[.slice RA ln rc, .int .i64 wt, .int .i64 ct, .int .i64 gt] := by simpa using hk.set_ 0 (.slice RA ln rc)
      obtain ⟨Z, hZ⟩ : ∃ Z, y2.setCell ⟨p, 0, none⟩ (.slice RA ln rc) = Z := ⟨_, rfl⟩
      rw [hZ] at C3 hk2 og2 k12 k22 ⊢
      clear hZ C1 C2 hk og og1 hq k11 k21 hg1 hy1 hq3
      have kb := Bx.new Z 42 #[.slice RA ln rc, .int .i64 wt, .int .i64 ct, .int .i64 gt]
      have C4 := C3.bel ((Below.refl _ _).alloc (Nat.le_refl _) (.cells #[.slice RA ln rc, .int .i64 wt, .int .i64 ct, .int .i64 gt] 42))
      have og4 := og2.alloc (.cells #[.slice RA ln rc, .int .i64 wt, .int .i64 ct, .int .i64 gt] 42)
      have k14 := k12.alloc (.cells #[.slice RA ln rc, .int .i64 wt, .int .i64 ct, .int .i64 gt] 42)
      have k24 := k22.alloc (.cells #[.slice RA ln rc, .int .i64 wt, .int .i64 ct, .int .i64 gt] 42)
      have OB := C4.ob
      rw [HTI.out] at OB
      have hCs := C4.hb.size
      obtain ⟨b0, b1, b2, b3, bf, bz⟩ := hk2.four
      obtain ⟨q0, q1, q2, q3, qf, qz⟩ := C3.k.four
      go_wp2_with (first
        | (at_builtin; refine wpList_app2 rfl (.tmp 29) (.tmp 31) 25 rfl w.heap.size 42 i42 _ 4 48 Try.underlying25 hi42 hz42 hs42 iy42 rfl (by decide) (.slice YA i yc) i rs.flatten rfl OB ⟨Z.heap.size, 0, none⟩ 1 1 [.slice RA ln rc, .int .i64 wt, .int .i64 ct, .int .i64 gt] rfl rfl (bx_news kb) (by simp [Value.oneCell']) (by unfold maxLen; omega) (by omega) hCs ?_; intro v' w' o1 o2 o3; obtain ⟨NA, NC, rfl⟩ := own_shape o1; have k3' := C4.k.grown o2 (own_bx OB C4.k (by decide)); clear q0 q1 q2 q3 qf qz; obtain ⟨q0, q1, q2, q3, qf, qz⟩ := k3'.four)
        | fail)
      go_roundw
      case rel =>
        have gr : GrRow (Z.alloc (.cells #[.slice RA ln rc, .int .i64 wt, .int .i64 ct, .int .i64 gt] 42)) w.heap.size [.slice RA ln rc, .int .i64 wt, .int .i64 ct, .int .i64 gt] b := ⟨RA, rc, by rw [HGL.out, HW.out.1, HW.out.2.1, HW.out.2.2], by rw [HGL.out]; exact og4⟩
        have C5 := C4.bin o2 (by rw [HTI.out]; exact o1) gr
        have e : o.bs.take (i + 1) = o.bs.take i ++ [b] := by rw [List.take_add_one, List.getElem?_eq_getElem hil, HBI.out]; rfl
        refine ⟨i + 1, .slice NA (i + 1) NC, rs ++ [[.slice RA ln rc, .int .i64 wt, .int .i64 ct, .int .i64 gt]], by go_num, by omega, hap2.out, by rw [e]; exact C5, ?_, ?_⟩
        · exact (k14.grown o2 (own_bx OB k14 (by decide))).far (by simp; try omega) _
        · exact (k24.grown o2 (own_bx OB k24 (by decide))).far (by simp; try omega) _
      case measure => simp [intOf]; omega
    · obtain rfl : i = bn := by omega
      have ht : o.bs.take i = o.bs := List.take_of_length_le (by rw [HBN.out]; exact Nat.le_refl _)
      rw [ht, HBN.out] at C
      obtain ⟨n0, n1, n2, n3, nf, nz⟩ := k2.four
      obtain ⟨q0, q1, q2, q3, qf, qz⟩ := C.k.four
      have HC := Lib.hid C
      clear C ht
      go_wp2_with fail
      have C := HC.out
      have ol := C.ol
      have ob := C.ob
      rw [HLN.out] at ol
      rw [HBN.out] at ob
      have s1 := k2.set_ 0 (.slice XA ln xc)
      have s2 := s1.set_ 1 (.int .i64 o.le)
      have s3 := s2.set_ 2 (.int .i64 o.mo)
      have s4 := s3.set_ 3 (.slice YA i yc)
      have ol1 := own_set ol (own_bx ol k2 (by decide)) (o := 0) (.slice XA ln xc)
      have ol2 := own_set ol1 (own_bx ol1 s1 (by decide)) (o := 1) (.int .i64 o.le)
      have ol3 := own_set ol2 (own_bx ol2 s2 (by decide)) (o := 2) (.int .i64 o.mo)
      have ol4 := own_set ol3 (own_bx ol3 s3 (by decide)) (o := 3) (.slice YA i yc)
      have ob1 := own_set ob (own_bx ob k2 (by decide)) (o := 0) (.slice XA ln xc)
      have ob2 := own_set ob1 (own_bx ob1 s1 (by decide)) (o := 1) (.int .i64 o.le)
      have ob3 := own_set ob2 (own_bx ob2 s2 (by decide)) (o := 2) (.int .i64 o.mo)
      have ob4 := own_set ob3 (own_bx ob3 s3 (by decide)) (o := 3) (.slice YA i yc)
      have bo4 := (((C.bo.set_ k2 (by decide) 0 (.slice XA ln xc)).set_ s1 (by decide) 1 (.int .i64 o.le)).set_ s2 (by decide) 2 (.int .i64 o.mo)).set_ s3 (by decide) 3 (.slice YA i yc)
      have hb4 := (((C.hb.setCell (p := ⟨w.heap.size + 1, 0, none⟩) (by simp) (.slice XA ln xc)).setCell (p := ⟨w.heap.size + 1, 1, none⟩) (by simp) (.int .i64 o.le)).setCell (p := ⟨w.heap.size + 1, 2, none⟩) (by simp) (.int .i64 o.mo)).setCell (p := ⟨w.heap.size + 1, 3, none⟩) (by simp) (.slice YA i yc)
      refine bodyPost_ret (v := .agg #[.slice XA ln xc, .int .i64 o.le, .int .i64 o.mo, .slice YA i yc]) (results_row1 (g := w.heap.size + 1) (t := 27) rfl rfl (by simpa using s4) Try.underlying27 rfl (by kernel_rfl)) rfl ⟨XA, xc, YA, yc, rs, rfl, ol4, ob4, bo4, hb4, hap⟩
/-- An order of one's own that is changed while a feed turns. -/
structure XI (g : Nat) (V : World) (lm : List Int) (bs : List Bn) (le mo : Int) (lv bv : Value) (rs : List (List Value)) (q : Nat) (wr : World) : Prop where
  k : Bx wr q 27 #[lv, .int .i64 le, .int .i64 mo, bv]
  ol : wr.ownsRow V.heap.size 3 1 lv lm.length (inr lm).flatten
  ob : wr.ownsRow V.heap.size 42 4 bv bs.length rs.flatten
  bo : BinsOwn wr V.heap.size rs bs
  ft : FT g V wr
  hq : V.heap.size ≤ q
  hg : g < V.heap.size
  ap : Apt rs
/-- The address of the grams of bin i. -/
def HeadIs (rs : List (List Value)) (i : Nat) (v : Value) : Prop := ∃ r, rs[i]? = some r ∧ r[0]? = some v
section
variable {g : Nat} {V wr x : World} {lm : List Int} {bs : List Bn} {le mo : Int} {lv bv : Value} {rs : List (List Value)} {q : Nat}
theorem XI.of (h : CI V lm bs le mo lv bv rs q wr) (hf : Fd g V) (ha : Apt rs) : XI g V lm bs le mo lv bv rs q wr :=
  ⟨h.k, h.ol, h.ob, h.bo, FT.bel (FT.self hf) h.hb, h.hq, hf.lt, ha⟩
theorem XI.step (h : XI g V lm bs le mo lv bv rs q wr) (k : FT g wr x) : XI g V lm bs le mo lv bv rs q x :=
  ⟨k.bx h.k (by have := h.hq; have := h.hg; omega), k.row h.ft.2 h.ol (by decide), k.row h.ft.2 h.ob (by decide), h.bo.ft h.ft.2 k.1, h.ft.call k.1 k.2, h.hq, h.hg, h.ap⟩
theorem XI.num (h : XI g V lm bs le mo lv bv rs q wr) (i : Nat) (z le' mo' : Int) (hi : (#[lv, .int .i64 le, .int .i64 mo, bv] : Array Value).setIfInBounds i (.int .i64 z) = #[lv, .int .i64 le', .int .i64 mo', bv]) : XI g V lm bs le' mo' lv bv rs q (wr.setCell ⟨q, i, none⟩ (.int .i64 z)) := by
  refine ⟨?_, own_set h.ol (own_bx h.ol h.k (by decide)) _, own_set h.ob (own_bx h.ob h.k (by decide)) _, h.bo.set_ h.k (by decide) i _, h.ft.set_ h.hq (by have := h.hq; have := h.hg; omega) _ _, h.hq, h.hg, h.ap⟩
  have := h.k.set_ i (.int .i64 z)
  rw [hi] at this
  exact this
theorem store_far {B e s yq n c i : Nat} {xs : List Value} {u : Value} (h : wr.ownsRow B e s (.slice (some ⟨yq, 0, none⟩) n c) n xs) {e' s' n' : Nat} {v' : Value} {xs' : List Value} (ho : wr.ownsRow B e' s' v' n' xs') (he : e ≠ e') : (wr.setCell ⟨yq, i, none⟩ u).ownsRow B e' s' v' n' xs' := own_set ho (fun e => by
    rcases own_ne h ho he with e2 | e2
    · simp [Value.ownBlock] at e2
    · exact e2 e) _
/-- A limit set. -/
theorem XI.lim {yq n c : Nat} (h : XI g V lm bs le mo (.slice (some ⟨yq, 0, none⟩) n c) bv rs q wr) (hn : lm.length = n) {i : Nat} (hi : i < n) (z : Int) :
    XI g V (lm.set i z) bs le mo (.slice (some ⟨yq, 0, none⟩) n c) bv rs q (wr.setCell ⟨yq, i, none⟩ (.int .i64 z)) := by
  subst hn
  have hl := (h.ol.lt yq rfl).1
  refine ⟨h.k.far (fun e => own_bx h.ol h.k (by decide) (by rw [e]; rfl)) _, ?_, store_far h.ol h.ob (by decide), ⟨h.bo.len, fun j r b h1 h2 => ?_⟩, h.ft.set_ hl (by have := h.hg; omega) _ _, h.hq, h.hg, h.ap⟩
  · rw [List.length_set]
    have := own_store h.ol i (.int .i64 z) (by omega)
    have e : (inr lm).flatten.set i (.int .i64 z) = (inr (lm.set i z)).flatten := by
      have := flatten_set (s := 1) (inr lm) (inr_one lm) i 0 [.int .i64 lm[i]] (.int .i64 z) (by simp [inr, List.getElem?_eq_getElem hi]) (by omega)
      rw [Nat.mul_one, Nat.add_zero] at this
      rw [this]
      simp [inr, List.map_set]
    rw [e] at this
    exact this
  · obtain ⟨A, C, e, o⟩ := h.bo.row j r b h1 h2
    exact ⟨A, C, e, store_far h.ol o (by decide)⟩
theorem Apt.set_ (ha : Apt rs) {i : Nat} {r r' : List Value} (hr : rs[i]? = some r) (h0 : r'[0]? = r[0]?) : Apt (rs.set i r') := by
  have hi : i < rs.length := (List.getElem?_eq_some_iff.1 hr).1
  have key : ∀ (j : Nat) (s : List Value), (rs.set i r')[j]? = some s → ∃ s', rs[j]? = some s' ∧ s[0]? = s'[0]? := fun j s hs => by
    by_cases hj : i = j
    · subst hj
      rw [List.getElem?_set_self hi, Option.some.injEq] at hs
      subst hs
      exact ⟨r, hr, h0⟩
    · rw [List.getElem?_set_ne hj] at hs
      exact ⟨s, hs, rfl⟩
  intro a b s t u v hab h1 h2 hu hv
  obtain ⟨s', e1, e2⟩ := key a s h1
  obtain ⟨t', e3, e4⟩ := key b t h2
  exact ha a b s' t' u v hab e1 e3 (e2 ▸ hu) (e4 ▸ hv)
theorem HeadIs.set_ {i j : Nat} {r r' : List Value} {v : Value} (h : HeadIs rs j v) (hr : rs[i]? = some r) (h0 : r'[0]? = r[0]?) : HeadIs (rs.set i r') j v := by
  have hi : i < rs.length := (List.getElem?_eq_some_iff.1 hr).1
  obtain ⟨s, e1, e2⟩ := h
  by_cases hj : i = j
  · subst hj
    rw [hr, Option.some.injEq] at e1
    subst e1
    exact ⟨r', List.getElem?_set_self hi, h0.trans e2⟩
  · exact ⟨s, by rw [List.getElem?_set_ne hj]; exact e1, e2⟩
/-- A bin's number set. -/
theorem XI.cell {yq n c : Nat} (h : XI g V lm bs le mo lv (.slice (some ⟨yq, 0, none⟩) n c) rs q wr) (hn : bs.length = n) {i : Nat} {b b' : Bn} (hb : bs[i]? = some b) (o : Nat) (ho : o < 4) (ho1 : 1 ≤ o) (z : Int) (hg : b'.gr = b.gr) (hrow : ∀ A C, ([.slice A b.gr.length C, .int .i64 b.w, .int .i64 b.c, .int .i64 b.g] : List Value).set o (.int .i64 z) = [.slice A b'.gr.length C, .int .i64 b'.w, .int .i64 b'.c, .int .i64 b'.g]) :
    ∃ rs', XI g V lm (bs.set i b') le mo lv (.slice (some ⟨yq, 0, none⟩) n c) rs' q (wr.setCell ⟨yq, i * 4 + o, none⟩ (.int .i64 z)) ∧ ∀ j v, HeadIs rs j v → HeadIs rs' j v := by
  subst hn
  have hib : i < bs.length := (List.getElem?_eq_some_iff.1 hb).1
  have hir : i < rs.length := by rw [h.bo.len]; exact hib
  obtain ⟨A, C, hr, og⟩ := h.bo.row i rs[i] b (List.getElem?_eq_getElem hir) hb
  have hl := (h.ob.lt yq rfl).1
  have h0 : (rs[i].set o (.int .i64 z))[0]? = rs[i][0]? := List.getElem?_set_ne (by omega)
  refine ⟨rs.set i (rs[i].set o (.int .i64 z)), ⟨h.k.far (fun e => own_bx h.ob h.k (by decide) (by rw [e]; rfl)) _, store_far h.ob h.ol (by decide), ?_, ⟨by simp [h.bo.len], fun j r b2 h1 h2 => ?_⟩, h.ft.set_ hl (by have := h.hg; omega) _ _, h.hq, h.hg, h.ap.set_ (List.getElem?_eq_getElem hir) h0⟩, fun j v hv => hv.set_ (List.getElem?_eq_getElem hir) h0⟩
  · rw [List.length_set, ← flatten_set rs h.bo.four i o rs[i] _ (List.getElem?_eq_getElem hir) ho]
    exact own_store h.ob (i * 4 + o) _ (by omega)
  · by_cases hj : j = i
    · subst hj
      rw [List.getElem?_set_self hir] at h1
      rw [List.getElem?_set_self hib] at h2
      simp only [Option.some.injEq] at h1 h2
      subst h1 h2
      refine ⟨A, C, by rw [hr]; exact hrow A C, ?_⟩
      rw [hg]
      exact store_far h.ob og (by decide)
    · rw [List.getElem?_set_ne (Ne.symm hj)] at h1 h2
      obtain ⟨A2, C2, e2, o2⟩ := h.bo.row j r b2 h1 h2
      exact ⟨A2, C2, e2, store_far h.ob o2 (by decide)⟩
/-- What can be read of bin i. -/
theorem XI.at_ {yq n c : Nat} (h : XI g V lm bs le mo lv (.slice (some ⟨yq, 0, none⟩) n c) rs q wr) (hn : bs.length = n) {i : Nat} {b : Bn} (hb : bs[i]? = some b) :
    ∃ (G : Option Addr) (gc : Nat), wr.cell? ⟨yq, i * 4, none⟩ = some (.slice G b.gr.length gc) ∧ wr.cell? ⟨yq, i * 4 + 1, none⟩ = some (.int .i64 b.w) ∧ wr.cell? ⟨yq, i * 4 + 2, none⟩ = some (.int .i64 b.c) ∧ wr.cell? ⟨yq, i * 4 + 3, none⟩ = some (.int .i64 b.g) ∧ HeadIs rs i (.slice G b.gr.length gc) ∧ wr.ownsRow V.heap.size 39 2 (.slice G b.gr.length gc) b.gr.length (gnr b.gr).flatten := by
  subst hn
  have hib : i < bs.length := (List.getElem?_eq_some_iff.1 hb).1
  have hir : i < rs.length := by rw [h.bo.len]; exact hib
  obtain ⟨A, C, hr, og⟩ := h.bo.row i rs[i] b (List.getElem?_eq_getElem hir) hb
  obtain ⟨A', c', e, hs⟩ := own_sl h.ob h.bo.four h.bo.len
  simp only [Value.slice.injEq, true_and] at e
  obtain ⟨rfl, rfl⟩ := e
  have hcells := hs.cells (by omega) h.bo.four
  have cell : ∀ o, o < 4 → wr.cell? ⟨yq, i * 4 + o, none⟩ = rs[i][o]? := fun o ho => by
    have h4 : rs[i].length = 4 := h.bo.four _ (List.getElem_mem hir)
    have e1 : rs[i][o]? = some rs[i][o] := List.getElem?_eq_getElem (by omega)
    have e2 := flat_at (s := 4) rs h.bo.four i rs[i] (List.getElem?_eq_getElem hir) o _ e1
    have e3 := hcells _ _ e2
    rw [e1, ← e3]
    unfold Addr.add
    split <;> simp_all
  have c0 := cell 0 (by omega)
  have c1 := cell 1 (by omega)
  have c2 := cell 2 (by omega)
  have c3 := cell 3 (by omega)
  rw [hr] at c0 c1 c2 c3
  exact ⟨A, C, c0, c1, c2, c3, ⟨rs[i], List.getElem?_eq_getElem hir, by rw [hr]; rfl⟩, og⟩
/-- A gram set. -/
theorem XI.gram {gq n C : Nat} (h : XI g V lm bs le mo lv bv rs q wr) {i j : Nat} {b : Bn} {p : Int × Int} (hH : HeadIs rs i (.slice (some ⟨gq, 0, none⟩) n C)) (hb : bs[i]? = some b) (hp : b.gr[j]? = some p) (o : Nat) (ho : o < 2) (z : Int) (p' : Int × Int) (hrow : ([.int .i64 p.1, .int .i64 p.2] : List Value).set o (.int .i64 z) = [.int .i64 p'.1, .int .i64 p'.2]) :
    XI g V lm (bs.set i { b with gr := b.gr.set j p' }) le mo lv bv rs q (wr.setCell ⟨gq, j * 2 + o, none⟩ (.int .i64 z)) := by
  have hib : i < bs.length := (List.getElem?_eq_some_iff.1 hb).1
  have hir : i < rs.length := by rw [h.bo.len]; exact hib
  have hjl : j < b.gr.length := (List.getElem?_eq_some_iff.1 hp).1
  obtain ⟨A, CC, hr, og⟩ := h.bo.row i rs[i] b (List.getElem?_eq_getElem hir) hb
  obtain ⟨r, hr1, hr2⟩ := hH
  rw [List.getElem?_eq_getElem hir, Option.some.injEq] at hr1
  subst hr1
  have hr3 := hr2
  rw [hr] at hr2
  simp only [List.getElem?_cons_zero, Option.some.injEq, Value.slice.injEq] at hr2
  obtain ⟨rfl, rfl, rfl⟩ := hr2
  have hl := (og.lt gq rfl).1
  refine ⟨h.k.far (fun e => own_bx og h.k (by decide) (by rw [e]; rfl)) _, store_far og h.ol (by decide), ?_, ⟨by simp [h.bo.len], fun k r2 b2 h1 h2 => ?_⟩, h.ft.set_ hl (by have := h.hg; omega) _ _, h.hq, h.hg, h.ap⟩
  · rw [List.length_set]
    exact store_far og h.ob (by decide)
  · by_cases hk : k = i
    · subst hk
      rw [List.getElem?_eq_getElem hir] at h1
      rw [List.getElem?_set_self hib] at h2
      simp only [Option.some.injEq] at h1 h2
      subst h1 h2
      refine ⟨some ⟨gq, 0, none⟩, CC, by rw [hr]; simp, ?_⟩
      have := own_store og (j * 2 + o) (.int .i64 z) (by omega)
      have e : (gnr b.gr).flatten.set (j * 2 + o) (.int .i64 z) = (gnr (b.gr.set j p')).flatten := by
        rw [flatten_set (s := 2) (gnr b.gr) (gnr_two b.gr) j o [.int .i64 p.1, .int .i64 p.2] (.int .i64 z) (by simp [gnr, hp]) ho, hrow]
        simp [gnr, List.map_set]
      rw [e] at this
      simpa using this
    · rw [List.getElem?_set_ne (Ne.symm hk)] at h2
      obtain ⟨A2, C2, e2, o2⟩ := h.bo.row k r2 b2 h1 h2
      refine ⟨A2, C2, e2, own_set o2 (fun e => ?_) _⟩
      have hk0 : r2[0]? = some (.slice A2 b2.gr.length C2) := by rw [e2]; rfl
      rcases Nat.lt_or_gt_of_ne hk with hlt | hgt
      · rcases h.ap k i r2 rs[i] _ _ hlt h1 (List.getElem?_eq_getElem hir) hk0 hr3 with e3 | e3
        · rw [e3] at e; simp at e
        · exact e3 (by rw [← e]; rfl)
      · rcases h.ap i k rs[i] r2 _ _ hgt (List.getElem?_eq_getElem hir) h1 hr3 hk0 with e3 | e3
        · simp [Value.ownBlock] at e3
        · exact e3 (by rw [← e]; rfl)
theorem XI.ord {LA BA : Option Addr} {lc bc ln bn : Nat} (h : XI g V lm bs le mo (.slice LA ln lc) (.slice BA bn bc) rs q wr) (hl : lm.length = ln) (hb : bs.length = bn) : OrdAt wr wr.heap.size LA BA ⟨lm, le, mo, bs⟩ := by
  have ol := h.ol
  have ob := h.ob
  rw [hl] at ol
  rw [hb] at ob
  exact ⟨own_inr ol hl, h.bo.at_ ob hb⟩
end
/-- A bin that is easier than another one. -/
structure EzB (b b' : Bn) : Prop where
  w : b'.w = b.w
  c0 : 0 ≤ b'.c
  c : b'.c ≤ b.c
  g : b.g ≤ b'.g
  g5 : b'.g ≤ 5
  len : b'.gr.length = b.gr.length
  gr : ∀ (j : Nat) (p p' : Int × Int), b.gr[j]? = some p → b'.gr[j]? = some p' → 0 ≤ p'.1 ∧ p'.1 ≤ p'.2 ∧ p'.2 ≤ p.2
/-- Bins that are easier, those from i on with as many grabs as before. -/
structure EzBs (bs bs' : List Bn) (i : Nat) : Prop where
  len : bs'.length = bs.length
  row : ∀ (j : Nat) (b b' : Bn), bs[j]? = some b → bs'[j]? = some b' → EzB b b' ∧ (i ≤ j → b'.g = b.g)
theorem EzBs.set_ {bs bs' : List Bn} {i i' k : Nat} {b b' : Bn} (h : EzBs bs bs' i) (hb : bs[k]? = some b) (he : EzB b b') (hi : i ≤ i') (hg : i' ≤ k → b'.g = b.g) : EzBs bs (bs'.set k b') i' := by
  have hk : k < bs'.length := by rw [h.len]; exact (List.getElem?_eq_some_iff.1 hb).1
  refine ⟨by rw [List.length_set]; exact h.len, fun j a a' h1 h2 => ?_⟩
  by_cases hj : k = j
  · subst hj
    rw [List.getElem?_set_self hk, Option.some.injEq] at h2
    subst h2
    rw [hb, Option.some.injEq] at h1
    subst h1
    exact ⟨he, hg⟩
  · rw [List.getElem?_set_ne hj] at h2
    obtain ⟨k1, k2⟩ := h.row j a a' h1 h2
    exact ⟨k1, fun h => k2 (by omega)⟩
/-- Limits that are higher, those from i on as before. -/
structure EzL (lm lm' : List Int) (i : Nat) : Prop where
  len : lm'.length = lm.length
  row : ∀ (j : Nat) (a b : Int), lm[j]? = some a → lm'[j]? = some b → a ≤ b ∧ b ≤ a + 49 ∧ (i ≤ j → b = a)
theorem EzL.start (lm : List Int) : EzL lm lm 0 := ⟨rfl, fun j a b h1 h2 => by rw [h1, Option.some.injEq] at h2; subst h2; exact ⟨by omega, by omega, fun _ => rfl⟩⟩
theorem EzL.step {lm lm' : List Int} {i : Nat} (h : EzL lm lm' i) {a : Int} (ha : lm[i]? = some a) {z : Int} (hz : 0 ≤ z) (hz2 : z ≤ 49) : EzL lm (lm'.set i (a + z)) (i + 1) := by
  have hk : i < lm'.length := by rw [h.len]; exact (List.getElem?_eq_some_iff.1 ha).1
  refine ⟨by rw [List.length_set]; exact h.len, fun j b c h1 h2 => ?_⟩
  by_cases hj : i = j
  · subst hj
    rw [List.getElem?_set_self hk, Option.some.injEq] at h2
    subst h2
    rw [ha, Option.some.injEq] at h1
    subst h1
    exact ⟨by omega, by omega, fun h => by omega⟩
  · rw [List.getElem?_set_ne hj] at h2
    obtain ⟨k1, k2, k3⟩ := h.row j b c h1 h2
    exact ⟨k1, k2, fun h => k3 (by omega)⟩
theorem EzBs.start {o : Od} (h : Small o 3 2 4) : EzBs o.bs o.bs 0 := ⟨rfl, fun j b b' h1 h2 => by
  rw [h1, Option.some.injEq] at h2
  subst h2
  obtain ⟨p1, p2, p3, p4, p5, p6, p7, p8⟩ := h.bn b (List.mem_of_getElem? h1)
  refine ⟨⟨rfl, p5, Int.le_refl _, Int.le_refl _, by omega, rfl, fun j p p' e1 e2 => ?_⟩, fun _ => rfl⟩
  rw [e1, Option.some.injEq] at e2
  subst e2
  have := p2 p (List.mem_of_getElem? e1)
  omega⟩
theorem getD_opt {α : Type} {l : List α} {i : Nat} {d : α} : l.getD i d = (l[i]?).getD d := List.getD_eq_getElem?_getD ..
theorem easier_of {o : Od} {lm : List Int} {bs : List Bn} {le mo : Int} {n m : Nat} (h : Small o 3 2 4) (hl : EzL o.lm lm n) (hb : EzBs o.bs bs m) (h1 : 0 ≤ le) (h2 : le ≤ o.le) (h3 : o.mo ≤ mo) (h4 : mo ≤ 2000) : Easier o ⟨lm, le, mo, bs⟩ ∧ Od.Ok ⟨lm, le, mo, bs⟩ := by
  have hsl := h.lm
  have hsb := h.bs
  have hsb1 := h.b1
  have hsm := h.lem
  have bn : ∀ i, i < o.bs.length → EzB (o.bn i) ((⟨lm, le, mo, bs⟩ : Od).bn i) := fun i hi => by
    have e1 : o.bs[i]? = some (o.bn i) := by rw [List.getElem?_eq_getElem hi, Od.bn_eq hi]
    have hi2 : i < bs.length := by rw [hb.len]; exact hi
    have e2 : bs[i]? = some ((⟨lm, le, mo, bs⟩ : Od).bn i) := by rw [List.getElem?_eq_getElem hi2]; exact congrArg some (Od.bn_eq (o := ⟨lm, le, mo, bs⟩) hi2)
    exact (hb.row i _ _ e1 e2).1
  have bn' : ∀ i, ¬ i < o.bs.length → o.bn i = bn0 ∧ (⟨lm, le, mo, bs⟩ : Od).bn i = bn0 := fun i hi => by
    unfold Od.bn
    rw [getD_opt, getD_opt, List.getElem?_eq_none (by omega), List.getElem?_eq_none (by simp only; rw [hb.len]; omega)]
    exact ⟨rfl, rfl⟩
  constructor
  · refine ⟨hl.len, fun j => ?_, h2, h3, hb.len, fun i => ?_, fun i => ?_, fun i => ?_, fun i j => ?_⟩
    · unfold Od.li
      rw [getD_opt, getD_opt]
      cases e1 : o.lm[j]? with
      | none => rw [List.getElem?_eq_none (by simp only; rw [hl.len]; exact List.getElem?_eq_none_iff.1 e1)]; simp
      | some a =>
        have hj : j < lm.length := by rw [hl.len]; exact (List.getElem?_eq_some_iff.1 e1).1
        simp only
        rw [List.getElem?_eq_getElem hj]
        exact (hl.row j a _ e1 (List.getElem?_eq_getElem hj)).1
    · by_cases hi : i < o.bs.length
      · exact (bn i hi).w
      · rw [(bn' i hi).1, (bn' i hi).2]
    · by_cases hi : i < o.bs.length
      · exact (bn i hi).c
      · rw [(bn' i hi).1, (bn' i hi).2]; exact Int.le_refl _
    · by_cases hi : i < o.bs.length
      · exact (bn i hi).g
      · rw [(bn' i hi).1, (bn' i hi).2]; exact Int.le_refl _
    · by_cases hi : i < o.bs.length
      · have hb1 := bn i hi
        obtain ⟨b, hbe⟩ : ∃ b, o.bn i = b := ⟨_, rfl⟩
        obtain ⟨b', hbe'⟩ : ∃ b, (⟨lm, le, mo, bs⟩ : Od).bn i = b := ⟨_, rfl⟩
        rw [hbe, hbe'] at hb1
        rw [hbe, hbe']
        unfold Bn.g2
        rw [getD_opt, getD_opt]
        cases e1 : b.gr[j]? with
        | none => rw [List.getElem?_eq_none (by rw [hb1.len]; exact List.getElem?_eq_none_iff.1 e1)]; simp
        | some p =>
          have hj : j < b'.gr.length := by rw [hb1.len]; exact (List.getElem?_eq_some_iff.1 e1).1
          rw [List.getElem?_eq_getElem hj]
          exact (hb1.gr j p _ e1 (List.getElem?_eq_getElem hj)).2.2
      · rw [(bn' i hi).1, (bn' i hi).2]; exact Int.le_refl _
  · refine ⟨by simp only; rw [hl.len]; omega, fun x hx => ?_, h1, by simp only; omega, by simp only; omega, by simp only; rw [hb.len]; omega, by simp only; rw [hb.len]; omega, fun b hbm => ?_⟩
    · obtain ⟨j, hj⟩ := List.getElem?_of_mem hx
      have hjl : j < o.lm.length := by rw [← hl.len]; exact (List.getElem?_eq_some_iff.1 hj).1
      have k := hl.row j _ x (List.getElem?_eq_getElem hjl) hj
      have := h.li _ (List.getElem_mem hjl)
      omega
    · obtain ⟨j, hj⟩ := List.getElem?_of_mem hbm
      have hjl : j < o.bs.length := by rw [← hb.len]; exact (List.getElem?_eq_some_iff.1 hj).1
      have k := (hb.row j _ b (List.getElem?_eq_getElem hjl) hj).1
      obtain ⟨p1, p2, p3, p4, p5, p6, p7, p8⟩ := h.bn _ (List.getElem_mem hjl)
      have a1 := k.w
      have a2 := k.c
      have a3 := k.g
      have a4 := k.g5
      refine ⟨by simp only; rw [k.len, p1, hl.len], fun p hp => ?_, by omega, by omega, k.c0, by omega, by omega, by omega⟩
      obtain ⟨i, hi⟩ := List.getElem?_of_mem hp
      have hil : i < (o.bs[j]).gr.length := by rw [← k.len]; exact (List.getElem?_eq_some_iff.1 hi).1
      have k2 := k.gr i _ p (List.getElem?_eq_getElem hil) hi
      have := p2 _ (List.getElem_mem hil)
      omega
end Go.Proofs.Ytmemcopfeabcgaa
