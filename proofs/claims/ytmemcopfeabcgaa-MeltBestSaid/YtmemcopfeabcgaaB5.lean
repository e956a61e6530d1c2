/- MeltBest. -/
import Derived.Test.YtmemcopfeabcgaaBs
import Derived.Test.YtmemcopfeabcgaaMs
set_option linter.unusedSimpArgs false
set_option linter.unusedVariables false
namespace Go.Proofs.Ytmemcopfeabcgaa
open Go Go.RowKit
/-- The best list has not come among the first i. -/
def befB (ee : Int) (bl : List Int) (all : List (List Int)) (i : Nat) : Bool := !(decide (ee = 0) && decide (bl ∈ all.take i))
theorem befB_none (bl : List Int) (all : List (List Int)) (i : Nat) : befB 13 bl all i = true := by simp [befB]
theorem befB_zero (ee : Int) (bl : List Int) (all : List (List Int)) : befB ee bl all 0 = true := by simp [befB]
theorem befB_step {bl x : List Int} {all : List (List Int)} {i : Nat} (h : all[i]? = some x) : befB 0 bl all (i + 1) = (befB 0 bl all i && !decide (x = bl)) := by
  have e : all.take (i + 1) = all.take i ++ [x] := by rw [List.take_add_one, h]; rfl
  have e2 : (bl = x) = (x = bl) := propext ⟨Eq.symm, Eq.symm⟩
  simp [befB, e, e2]
theorem befB_mem {bl : List Int} {all : List (List Int)} (h : bl ∈ all) : befB 0 bl all all.length = false := by simp [befB, h]
theorem befB_seen {bl : List Int} {all : List (List Int)} {i j : Nat} (hj : j < i) (h : all[j]? = some bl) : befB 0 bl all i = false := by
  have : bl ∈ all.take i := by
    refine List.mem_of_getElem? (i := j) ?_
    rw [List.getElem?_take_of_lt hj]; exact h
  simp [befB, this]
/-- What MeltBest is told by Cheapest. -/
def BestIs (o : Od) (bl : List Int) (cc ee : Int) : Prop := (ee = 0 ∧ ∃ d, Cheap o (some d) ∧ bl = rowOf d o.bs.length ∧ cc = cst o d o.bs.length) ∨ (ee = 13 ∧ Cheap o none)
theorem Fit.ck {o : Od} (ho : o.Ok) {x : List Int} (h : Fit o.gs x) : ckBl o x = 0 := by
  refine ckBl_ok ho (by rw [h.len, gs_len]) fun j hj => ?_
  rw [← gs_at]
  exact h.at_ j (by rw [gs_len]; exact hj)
theorem allB_small {o : Od} {b m : Int} (h : Small o b m 4) (hb : b ≤ 3) : (allB o.gs).length ≤ 125 := by
  have h1 := allB_len o.gs (fun g hg => by
    unfold Od.gs at hg
    obtain ⟨b, hb, rfl⟩ := List.mem_map.1 hg
    exact (h.bn b hb).2.2.2.2.2.2.2)
  have h2 := h.bs
  rw [gs_len] at h1
  exact Nat.le_trans h1 (Nat.pow_le_pow_right (by omega) (by omega : o.bs.length ≤ 3))
theorem row_four {o : Od} (ho : o.Ok) {d : Nat → Int} (hi : InB zer o.mx d) : ∀ i, i < 4 → lf (rowOf d o.bs.length) i = d i := fun i hi4 => by
  by_cases h : i < o.bs.length
  · exact lf_row d h
  · have fd := inb_fit ho.b2 hi
    have a1 := hi i hi4
    have a2 := fd.inb i hi4
    have : o.mx i = 0 := by rw [mx_at]; unfold Od.bn; rw [List.getD_eq_getElem?_getD, List.getElem?_eq_none (by omega)]; rfl
    rw [this] at a1 a2
    simp only [zer] at a1 a2
    omega
set_option maxRecDepth 100000 in
set_option maxHeartbeats 8000000 in
theorem meltBest_run (A : Option Addr) (n c : Nat) (L : List Int) (w : World) (hn : n ≤ 9000000000000000000) (hl : L.length = n) (hA : Sl w w.heap.size 1 A (ints L)) : Calls Try.prog 5 #[.slice A n c] w fun e w' => e = .returned (.bool true) ∧ Below w.heap.size w w' := by
  have HL := Lib.hid hl
  clear hl
  obtain ⟨i3, hi3, hz3, hs3, iy3⟩ := info_parts info3'
  obtain ⟨i22, hi22, hz22, hs22, iy22⟩ := info_parts info22
  go_enter Try.func5, Try.ntmps5
  go_upto_region 3 with (first
    | (go_at_call 13; refine (feedOf_any A n c L _ hn HL.out hA).mono ?_; rintro e w1 ⟨⟨g, rfl, hg0, hfd⟩, hb1⟩)
    | (go_at_call 14; refine (orderOf_any g 3 2 4 _ hfd (by omega) (by omega) (by omega) (by omega) (by omega) (by omega)).mono ?_; rintro e w2 ⟨o, LA, BA, lc, bc, rfl, hsm, hO0, hfd2, hgr2⟩)
    | fail)
  have hok := hsm.ok (by omega) (by omega) (by omega)
  have HSM := Lib.hid hsm
  obtain ⟨ln, hln⟩ : ∃ k, o.lm.length = k := ⟨_, rfl⟩
  obtain ⟨bn, hbn⟩ : ∃ k, o.bs.length = k := ⟨_, rfl⟩
  have hln3 : ln ≤ 3 := by rw [← hln]; exact hok.lm
  have hbn4 : bn ≤ 4 := by rw [← hbn]; exact hok.b2
  have hbn1 : 1 ≤ bn := by rw [← hbn]; exact hok.b1
  rw [hln, hbn]
  have hBw : Below w.heap.size w w2 := hb1.grown hgr2 hb1.size (fun k e => by cases e; exact hg0)
  have B1 := (Below.refl w2.heap.size w2).alloc (Nat.le_refl _) (.cells #[.slice LA ln lc, .int .i64 o.le, .int .i64 o.mo, .slice BA bn bc] 27)
  have kO := Bx.new w2 27 #[.slice LA ln lc, .int .i64 o.le, .int .i64 o.mo, .slice BA bn bc]
  have hO := hO0.call B1
  have hF := hfd2.alloc (.cells #[.slice LA ln lc, .int .i64 o.le, .int .i64 o.mo, .slice BA bn bc] 27)
  have hB := hBw.alloc hBw.size (.cells #[.slice LA ln lc, .int .i64 o.le, .int .i64 o.mo, .slice BA bn bc] 27)
  have hgl := hfd2.lt
  obtain ⟨V1, hV⟩ : ∃ V, w2.alloc (.cells #[.slice LA ln lc, .int .i64 o.le, .int .i64 o.mo, .slice BA bn bc] 27) = V := ⟨_, rfl⟩
  rw [hV] at kO hO hF hB ⊢
  obtain ⟨bO, hbO⟩ : ∃ b, w2.heap.size = b := ⟨_, rfl⟩
  rw [hbO] at kO ⊢
  have hgO : bO ≠ g := by omega
  have HLN := Lib.hid hln
  have HBN := Lib.hid hbn
  have HOK := Lib.hid hok
  have hwg := hg0
  clear hV hbO B1 hO0 hfd2 hgr2 hb1 hfd hln hbn hok hBw hsm hgl
  obtain ⟨l0, l1, l2, l3, lf', lz⟩ := kO.four
  have hcap := allB_small HSM.out (by omega)
  clear hF
  go_upto_region 4 with (first
    | (go_at_call 20; refine (cheapest_ok LA ln lc BA bn bc o _ (by omega) (by omega) HLN.out HBN.out hO HOK.out).mono ?_; rintro e V3 ⟨⟨r1, x1, c1, hc1, rfl, hv1⟩, hq3⟩)
    | fail)
  have hb := HBN.out
  obtain ⟨XA, xn, xc, bl, cc, ee, hbl, rfl, rfl, hSX, hE, hee⟩ : ∃ (XA : Option Addr) (xn xc : Nat) (bl : List Int) (cc ee : Int), bl.length = xn ∧ x1 = .slice XA xn xc ∧ c1 = .int .i64 cc ∧ Sl V3 V3.heap.size 1 XA (inr bl) ∧ BestIs o bl cc ee ∧ (if r1.isSome = true then (0 : Int) else 13) = ee ∧ xn ≤ 4 := by
    cases r1 with
    | none =>
      obtain ⟨rfl, rfl⟩ := hv1
      exact ⟨none, 0, 0, [], 0, 13, rfl, rfl, rfl, Sl.nil _ _ _ _, .inr ⟨rfl, hc1⟩, rfl, by omega⟩
    | some d =>
      obtain ⟨rfl, q1, C1, rfl, ow1⟩ := hv1
      exact ⟨_, bn, C1, rowOf d bn, _, 0, rowOf_len _ _, rfl, rfl, cheap_row ow1, .inl ⟨rfl, d, hc1, by rw [hb], by rw [hb]⟩, rfl, hbn4⟩
  obtain ⟨hee, hxn⟩ := hee
  rw [hee]
  clear hee hv1 hc1 hb
  have kO3 := kO.call hq3
  have hO3 := hO.call hq3
  have hB3 := hB.trans (hq3.mono hB.size)
  clear l0 l1 l2 l3 lf' lz kO hO hB hq3
  obtain ⟨l0, l1, l2, l3, lf', lz⟩ := kO3.four
  go_upto_region 5 with (first
    | (go_at_call 21; refine (refBlends_any LA ln lc BA bn bc o HLN.out HBN.out HOK.out bn 0 [] none 0 V3.heap.size V3 (by omega) rfl hO3 (World.ownsRow_nil _ _ _ _) (Nat.le_refl _) (by rw [List.drop_zero]; omega)).mono ?_; rintro e V4 ⟨RA, rc, vs, rfl, oR, LR, hq4⟩)
    | fail)
  have el : ((allB (o.gs.drop 0)).map fun l => [] ++ l) = allB o.gs := by simp
  rw [el] at oR LR
  have AT := LR.at_ oR
  have kO4 := kO3.call hq4
  have hO4 := hO3.call hq4
  have hS4 := hSX.call hq4
  have hB4 := hB3.trans (hq4.mono hB3.size)
  clear l0 l1 l2 l3 lf' lz kO3 hO3 hSX hB3 hq4 el oR LR vs
  have hfit : ∀ x ∈ allB o.gs, Fit o.gs x := fun x hx => mem_allB.1 hx
  have HFIT := Lib.hid hfit
  have HE := Lib.hid hE
  obtain ⟨all, hall⟩ : ∃ a, allB o.gs = a := ⟨_, rfl⟩
  obtain ⟨nn, hnn⟩ : ∃ k, all.length = k := ⟨_, rfl⟩
  rw [hall, hnn] at hcap
  rw [hall] at AT HFIT ⊢
  rw [hnn]
  have HALL := Lib.hid (And.intro hall hnn)
  have HBLL := Lib.hid hbl
  clear hfit hE hall hnn hbl
  obtain ⟨U, hU⟩ : ∃ U, U = V4 := ⟨_, rfl⟩
  subst hU
  go_wp2_with fail
  go_loopw [9, 10] (fun bv v wr => ∃ (i : Nat), v = .int .i64 i ∧ i ≤ nn ∧ bv = .bool (befB ee bl all i) ∧ Below U.heap.size U wr) (fun _ v _ => nn - (intOf v).toNat)
  case atStart => exact ⟨0, rfl, by omega, by rw [befB_zero], Below.refl _ _⟩
  case round =>
    obtain ⟨i, rfl, hi, rfl, hUr⟩ := hrel
    obtain ⟨bef, hbef⟩ : ∃ b, befB ee bl all i = b := ⟨_, rfl⟩
    rw [hbef]
    by_cases hin : i < nn
    · have hil : i < all.length := by rw [HALL.out.2]; exact hin
      obtain ⟨x, hx⟩ : ∃ x, all[i]? = some x := ⟨_, List.getElem?_eq_getElem hil⟩
      have hxf := HFIT.out x (List.mem_of_getElem? hx)
      have hz := hxf.ck HOK.out
      have hxl : x.length = bn := by rw [hxf.len, gs_len, HBN.out]
      obtain ⟨ad, G, gc, rfl, hab, gx, gs⟩ := AT i x hx
      rw [hxl] at gx
      have hiw : IntKind.i64.wrap ((i : Int) + 1) = (i : Int) + 1 := IntWalk.i64_in _ (by omega)
      have HX := Lib.hid hx
      have HXF := Lib.hid hxf
      have HZ := Lib.hid hz
      have HBEF := Lib.hid hbef
      have HXL := Lib.hid hxl
      clear hx hxf hz hbef hxl
      obtain ⟨V5, hV5⟩ : ∃ V, V = wr := ⟨_, rfl⟩
      subst hV5
      go_wp2_with fail
      refine AnyG.startC (by kernel_rfl) ?_
      refine AnyG.takeP (i := 1) (v := ?_) rfl (by kernel_rfl) (fun _ _ _ h => h) rfl ?_ ?_
      rotate_left
      · (intro w'; go_simp; try with_reducible rfl)
      try simp only [Act.put, List.getElem_toArray, List.getElem_cons_succ, List.getElem_cons_zero, List.setIfInBounds_toArray, List.set_cons_zero, List.set_cons_succ]
      refine AnyG.takeP (i := 2) (v := ?_) rfl (by kernel_rfl) (fun _ _ _ h => h) rfl ?_ ?_
      rotate_left
      · (intro w'; go_simp; try with_reducible rfl)
      try simp only [Act.put, List.getElem_toArray, List.getElem_cons_succ, List.getElem_cons_zero, List.setIfInBounds_toArray, List.set_cons_zero, List.set_cons_succ]
      refine AnyG.takeP (i := 3) (v := ?_) rfl (by kernel_rfl) (fun _ _ _ h => h) rfl ?_ ?_
      rotate_left
      · (intro w'; go_simp; try with_reducible rfl)
      try simp only [Act.put, List.getElem_toArray, List.getElem_cons_succ, List.getElem_cons_zero, List.setIfInBounds_toArray, List.set_cons_zero, List.set_cons_succ]
      refine AnyG.enter (fun w' : World => Below U.heap.size U w') (fun i => true) ?_
      have hS : (fun w' : World => Below U.heap.size U w') (World.drew _) := hUr.drew
      refine AnyG.takeC (i := 0) (v := ?_) rfl (by kernel_rfl) (fun _ _ _ h => h) rfl ?_ hS ?_
      rotate_left
      · (intro w' hSw; (try dsimp only at hSw); obtain ⟨l0, l1, l2, l3, lf2, lz⟩ := (kO4.call hSw).four; go_simp; try with_reducible rfl)
      try simp only [Act.put, List.getElem_toArray, List.getElem_cons_succ, List.getElem_cons_zero, List.setIfInBounds_toArray, List.set_cons_zero, List.set_cons_succ]
      refine AnyG.takeC (i := 4) (v := ?_) rfl (by kernel_rfl) (fun _ _ _ h => h) rfl ?_ hS ?_
      rotate_left
      · (intro w' hSw; (try dsimp only at hSw); have gx2 := cellC hSw gx; go_simp; try with_reducible rfl)
      try simp only [Act.put, List.getElem_toArray, List.getElem_cons_succ, List.getElem_cons_zero, List.setIfInBounds_toArray, List.set_cons_zero, List.set_cons_succ]
      refine AnyG.one (i := 5) (by kernel_rfl) rfl rfl ?_
      go_simp
      refine (weigh_ok LA ln lc BA bn bc o G bn gc x _ (by omega) (by omega) HLN.out HBN.out (hO4.call hS) (by omega) HXL.out (gs.call hS) HZ.out).mono ?_
      rintro e5 y5 ⟨rfl, hb5⟩
      refine Onward.on (hS.trans (hb5.mono hS.size)) (fun hS2 => ?_)
      clear hS
      have hS := hS2
      clear hS2
      try simp only [Act.put, List.getElem_toArray, List.getElem_cons_succ, List.getElem_cons_zero, List.setIfInBounds_toArray, List.set_cons_zero, List.set_cons_succ]
      refine AnyG.takeC (i := 6) (v := ?_) rfl (by kernel_rfl) (fun _ _ _ h => h) rfl ?_ hS ?_
      rotate_left
      · (intro w' hSw; (try dsimp only at hSw); go_simp; try with_reducible rfl)
      try simp only [Act.put, List.getElem_toArray, List.getElem_cons_succ, List.getElem_cons_zero, List.setIfInBounds_toArray, List.set_cons_zero, List.set_cons_succ]
      refine AnyG.takeC (i := 7) (v := ?_) rfl (by kernel_rfl) (fun _ _ _ h => h) rfl ?_ hS ?_
      rotate_left
      · (intro w' hSw; (try dsimp only at hSw); go_simp; try with_reducible rfl)
      try simp only [Act.put, List.getElem_toArray, List.getElem_cons_succ, List.getElem_cons_zero, List.setIfInBounds_toArray, List.set_cons_zero, List.set_cons_succ]
      refine AnyG.takeC (i := 8) (v := ?_) rfl (by kernel_rfl) (fun _ _ _ h => h) rfl ?_ hS ?_
      rotate_left
      · (intro w' hSw; (try dsimp only at hSw); go_simp; try with_reducible rfl)
      try simp only [Act.put, List.getElem_toArray, List.getElem_cons_succ, List.getElem_cons_zero, List.setIfInBounds_toArray, List.set_cons_zero, List.set_cons_succ]
      refine AnyG.takeC (i := 9) (v := ?_) rfl (by kernel_rfl) (fun _ _ _ h => h) rfl ?_ hS ?_
      rotate_left
      · (intro w' hSw; (try dsimp only at hSw); go_simp; try with_reducible rfl)
      try simp only [Act.put, List.getElem_toArray, List.getElem_cons_succ, List.getElem_cons_zero, List.setIfInBounds_toArray, List.set_cons_zero, List.set_cons_succ]
      refine AnyG.takeC (i := 10) (v := ?_) rfl (by kernel_rfl) (fun _ _ _ h => h) rfl ?_ hS ?_
      rotate_left
      · (intro w' hSw; (try dsimp only at hSw); go_simp; try with_reducible rfl)
      try simp only [Act.put, List.getElem_toArray, List.getElem_cons_succ, List.getElem_cons_zero, List.setIfInBounds_toArray, List.set_cons_zero, List.set_cons_succ]
      refine AnyG.takeC (i := 11) (v := ?_) rfl (by kernel_rfl) (fun _ _ _ h => h) rfl ?_ hS ?_
      rotate_left
      · (intro w' hSw; (try dsimp only at hSw); go_simp; try with_reducible rfl)
      try simp only [Act.put, List.getElem_toArray, List.getElem_cons_succ, List.getElem_cons_zero, List.setIfInBounds_toArray, List.set_cons_zero, List.set_cons_succ]
      refine AnyG.takeC (i := 12) (v := ?_) rfl (by kernel_rfl) (fun _ _ _ h => h) rfl ?_ hS ?_
      rotate_left
      · (intro w' hSw; (try dsimp only at hSw); go_simp; try with_reducible rfl)
      try simp only [Act.put, List.getElem_toArray, List.getElem_cons_succ, List.getElem_cons_zero, List.setIfInBounds_toArray, List.set_cons_zero, List.set_cons_succ]
      refine AnyG.done (by kernel_rfl) ?_ _
      have hS9 : Below U.heap.size U _ := hS
      clear hS
      go_simp
      go_wp2_with fail
      refine AnyG.startC (by kernel_rfl) ?_
      refine AnyG.takeP (i := 1) (v := ?_) rfl (by kernel_rfl) (fun _ _ _ h => h) rfl ?_ ?_
      rotate_left
      · (intro w'; go_simp; try with_reducible rfl)
      try simp only [Act.put, List.getElem_toArray, List.getElem_cons_succ, List.getElem_cons_zero, List.setIfInBounds_toArray, List.set_cons_zero, List.set_cons_succ]
      refine AnyG.takeP (i := 2) (v := ?_) rfl (by kernel_rfl) (fun _ _ _ h => h) rfl ?_ ?_
      rotate_left
      · (intro w'; go_simp; try with_reducible rfl)
      try simp only [Act.put, List.getElem_toArray, List.getElem_cons_succ, List.getElem_cons_zero, List.setIfInBounds_toArray, List.set_cons_zero, List.set_cons_succ]
      refine AnyG.takeP (i := 3) (v := ?_) rfl (by kernel_rfl) (fun _ _ _ h => h) rfl ?_ ?_
      rotate_left
      · (intro w'; go_simp; try with_reducible rfl)
      try simp only [Act.put, List.getElem_toArray, List.getElem_cons_succ, List.getElem_cons_zero, List.setIfInBounds_toArray, List.set_cons_zero, List.set_cons_succ]
      refine AnyG.enter (fun w' : World => Below U.heap.size U w') (fun i => true) ?_
      have hS : (fun w' : World => Below U.heap.size U w') (World.drew _) := hS9.drew
      refine AnyG.takeC (i := 0) (v := ?_) rfl (by kernel_rfl) (fun _ _ _ h => h) rfl ?_ hS ?_
      rotate_left
      · (intro w' hSw; (try dsimp only at hSw); obtain ⟨l0, l1, l2, l3, lf2, lz⟩ := (kO4.call hSw).four; go_simp; try with_reducible rfl)
      try simp only [Act.put, List.getElem_toArray, List.getElem_cons_succ, List.getElem_cons_zero, List.setIfInBounds_toArray, List.set_cons_zero, List.set_cons_succ]
      refine AnyG.takeC (i := 4) (v := ?_) rfl (by kernel_rfl) (fun _ _ _ h => h) rfl ?_ hS ?_
      rotate_left
      · (intro w' hSw; (try dsimp only at hSw); have gx2 := cellC hSw gx; go_simp; try with_reducible rfl)
      try simp only [Act.put, List.getElem_toArray, List.getElem_cons_succ, List.getElem_cons_zero, List.setIfInBounds_toArray, List.set_cons_zero, List.set_cons_succ]
      refine AnyG.one (i := 5) (by kernel_rfl) rfl rfl ?_
      go_simp
      refine (keeps_ok LA ln lc BA bn bc o G bn gc x _ (by omega) (by omega) HLN.out HBN.out (hO4.call hS) (by omega) HXL.out (gs.call hS) HZ.out).mono ?_
      rintro e6 y6 ⟨rfl, hb6⟩
      refine Onward.on (hS.trans (hb6.mono hS.size)) (fun hS2 => ?_)
      clear hS
      have hS := hS2
      clear hS2
      try simp only [Act.put, List.getElem_toArray, List.getElem_cons_succ, List.getElem_cons_zero, List.setIfInBounds_toArray, List.set_cons_zero, List.set_cons_succ]
      refine AnyG.takeC (i := 6) (v := ?_) rfl (by kernel_rfl) (fun _ _ _ h => h) rfl ?_ hS ?_
      rotate_left
      · (intro w' hSw; (try dsimp only at hSw); go_simp; try with_reducible rfl)
      try simp only [Act.put, List.getElem_toArray, List.getElem_cons_succ, List.getElem_cons_zero, List.setIfInBounds_toArray, List.set_cons_zero, List.set_cons_succ]
      refine AnyG.takeC (i := 7) (v := ?_) rfl (by kernel_rfl) (fun _ _ _ h => h) rfl ?_ hS ?_
      rotate_left
      · (intro w' hSw; (try dsimp only at hSw); go_simp; try with_reducible rfl)
      try simp only [Act.put, List.getElem_toArray, List.getElem_cons_succ, List.getElem_cons_zero, List.setIfInBounds_toArray, List.set_cons_zero, List.set_cons_succ]
      refine AnyG.takeC (i := 8) (v := ?_) rfl (by kernel_rfl) (fun _ _ _ h => h) rfl ?_ hS ?_
      rotate_left
      · (intro w' hSw; (try dsimp only at hSw); go_simp; try with_reducible rfl)
      try simp only [Act.put, List.getElem_toArray, List.getElem_cons_succ, List.getElem_cons_zero, List.setIfInBounds_toArray, List.set_cons_zero, List.set_cons_succ]
      refine AnyG.takeC (i := 9) (v := ?_) rfl (by kernel_rfl) (fun _ _ _ h => h) rfl ?_ hS ?_
      rotate_left
      · (intro w' hSw; (try dsimp only at hSw); go_simp; try with_reducible rfl)
      try simp only [Act.put, List.getElem_toArray, List.getElem_cons_succ, List.getElem_cons_zero, List.setIfInBounds_toArray, List.set_cons_zero, List.set_cons_succ]
      refine AnyG.takeC (i := 10) (v := ?_) rfl (by kernel_rfl) (fun _ _ _ h => h) rfl ?_ hS ?_
      rotate_left
      · (intro w' hSw; (try dsimp only at hSw); go_simp; try with_reducible rfl)
      try simp only [Act.put, List.getElem_toArray, List.getElem_cons_succ, List.getElem_cons_zero, List.setIfInBounds_toArray, List.set_cons_zero, List.set_cons_succ]
      refine AnyG.done (by kernel_rfl) ?_ _
      have hSA : Below U.heap.size U _ := hS
      clear hS hS9
      go_simp
      obtain ⟨nk, hnk⟩ : ∃ z, kil o (lf x) bn = z := ⟨_, rfl⟩
      obtain ⟨cx, hcx⟩ : ∃ z, cst o (lf x) bn = z := ⟨_, rfl⟩
      obtain ⟨kx, hkx⟩ : ∃ z, kv o (lf x) = z := ⟨_, rfl⟩
      rw [hnk, hcx, hkx]
      have HK := Lib.hid (And.intro hnk (And.intro hcx hkx))
      clear hnk hcx hkx
      go_upto_region 13 with fail
      rcases HE.out with ⟨rfl, d, hd, hbld, hcc⟩ | ⟨rfl, hno⟩
      · have hstep := befB_step (bl := bl) HX.out
        rw [HBEF.out] at hstep
        have HD := Lib.hid hd
        have HBLD := Lib.hid hbld
        have HCC := Lib.hid hcc
        have HST := Lib.hid hstep
        clear hd hbld hcc hstep
        by_cases hxb : x = bl
        · have hsame : decide (x = bl) = true := decide_eq_true hxb
          have HXB := Lib.hid hxb
          clear hxb
          have hr4 : ∀ i, i < 4 → lf x i = d i := by rw [HXB.out, HBLD.out]; exact row_four HOK.out HD.out.1
          have hg : Good o (lf x) := (good_four HOK.out.b2 hr4).2 HD.out.2.2.1
          have hg1 := hg.1
          have hg2 := hg.2.1
          have hg3 := hg.2.2
          rw [HBN.out, HK.out.1] at hg1 hg2
          rw [HK.out.2.2] at hg3
          have hce : cx = cc := by rw [← HK.out.2.1, HCC.out, ← HBN.out]; exact cst_four HOK.out.b2 hr4
          subst hce
          have d1 : decide (o.le ≤ nk) = true := by simp; omega
          have d2 : decide (nk ≤ o.mo) = true := by simp; omega
          have d3 : (kx == 1) = true := by simp; omega
          clear hg hg1 hg2 hg3 hr4
          have hnx : befB 0 bl all (i + 1) = false := by rw [HST.out, hsame]; simp
          cases bef
          · skip
            obtain ⟨l0, l1, l2, l3, lf', lz⟩ := (kO4.call hSA).four
            have gx3 := cellC hSA gx
            go_wp2_with (first | (go_at_call 23; refine (equalInts_any G bn gc XA xn xc x bl _ (by omega) (by omega) HXL.out HBLL.out (gs.call hSA) (hS4.call hSA)).mono ?_; rintro e V8 ⟨rfl, hq8⟩; rw [hsame]; have kO8 := (kO4.call hSA).call hq8; clear l0 l1 l2 l3 lf' lz; obtain ⟨l0, l1, l2, l3, lf', lz⟩ := kO8.four) | fail)
            have hB8 := hSA.trans (hq8.mono hSA.size)
            go_roundw
            case rel => exact ⟨i + 1, by go_num, by omega, by rw [hnx], hB8⟩
            case measure => simp [intOf]; omega
          · skip
            obtain ⟨l0, l1, l2, l3, lf', lz⟩ := (kO4.call hSA).four
            have gx3 := cellC hSA gx
            go_wp2_with (first | (go_at_call 23; refine (equalInts_any G bn gc XA xn xc x bl _ (by omega) (by omega) HXL.out HBLL.out (gs.call hSA) (hS4.call hSA)).mono ?_; rintro e V8 ⟨rfl, hq8⟩; rw [hsame]; have kO8 := (kO4.call hSA).call hq8; clear l0 l1 l2 l3 lf' lz; obtain ⟨l0, l1, l2, l3, lf', lz⟩ := kO8.four) | fail)
            have hB8 := hSA.trans (hq8.mono hSA.size)
            go_roundw
            case rel => exact ⟨i + 1, by go_num, by omega, by rw [hnx], hB8⟩
            case measure => simp [intOf]; omega
        · have hsame : decide (x = bl) = false := decide_eq_false hxb
          have hnx : befB 0 bl all (i + 1) = bef := by rw [HST.out, hsame]; simp
          have HXB := Lib.hid hxb
          clear hxb
          by_cases hng : Good o (lf x)
          · have hg1 := hng.1
            have hg2 := hng.2.1
            have hg3 := hng.2.2
            rw [HBN.out, HK.out.1] at hg1 hg2
            rw [HK.out.2.2] at hg3
            obtain ⟨hle, heq⟩ := HD.out.2.2.2 (lf x) HXF.out.inb (rk_lt HXF.out.inb) hng
            clear heq
            rw [HBN.out, HK.out.2.1, ← HBN.out, ← HCC.out] at hle
            have d1 : decide (o.le ≤ nk) = true := by simp; omega
            have d2 : decide (nk ≤ o.mo) = true := by simp; omega
            have d3 : (kx == 1) = true := by simp; omega
            have d4 : decide (cx < cc) = false := by simp; omega
            by_cases hce : cx = cc
            · have hbf : bef = false := by
                obtain ⟨j, hj, hjj⟩ := best_seen HOK.out HD.out (by rw [HALL.out.1]; exact HX.out) hng (by rw [HBN.out, HK.out.2.1, ← HBN.out, ← HCC.out]; exact hce) (by rw [← HBLD.out]; exact HXB.out)
                rw [HALL.out.1, ← HBLD.out] at hjj
                rw [← HBEF.out]; exact befB_seen hj hjj
              subst hbf
              subst hce
              clear hg1 hg2 hg3 hle
              skip
              obtain ⟨l0, l1, l2, l3, lf', lz⟩ := (kO4.call hSA).four
              have gx3 := cellC hSA gx
              go_wp2_with (first | (go_at_call 23; refine (equalInts_any G bn gc XA xn xc x bl _ (by omega) (by omega) HXL.out HBLL.out (gs.call hSA) (hS4.call hSA)).mono ?_; rintro e V8 ⟨rfl, hq8⟩; rw [hsame]; have kO8 := (kO4.call hSA).call hq8; clear l0 l1 l2 l3 lf' lz; obtain ⟨l0, l1, l2, l3, lf', lz⟩ := kO8.four) | fail)
              have hB8 := hSA.trans (hq8.mono hSA.size)
              go_roundw
              case rel => exact ⟨i + 1, by go_num, by omega, by rw [hnx], hB8⟩
              case measure => simp [intOf]; omega
            · have d5 : (cx == cc) = false := by simp; exact hce
              clear hg1 hg2 hg3 hle hce
              cases bef
              · skip
                obtain ⟨l0, l1, l2, l3, lf', lz⟩ := (kO4.call hSA).four
                have gx3 := cellC hSA gx
                go_wp2_with (first | (go_at_call 23; refine (equalInts_any G bn gc XA xn xc x bl _ (by omega) (by omega) HXL.out HBLL.out (gs.call hSA) (hS4.call hSA)).mono ?_; rintro e V8 ⟨rfl, hq8⟩; rw [hsame]; have kO8 := (kO4.call hSA).call hq8; clear l0 l1 l2 l3 lf' lz; obtain ⟨l0, l1, l2, l3, lf', lz⟩ := kO8.four) | fail)
                have hB8 := hSA.trans (hq8.mono hSA.size)
                go_roundw
                case rel => exact ⟨i + 1, by go_num, by omega, by rw [hnx], hB8⟩
                case measure => simp [intOf]; omega
              · skip
                obtain ⟨l0, l1, l2, l3, lf', lz⟩ := (kO4.call hSA).four
                have gx3 := cellC hSA gx
                go_wp2_with (first | (go_at_call 23; refine (equalInts_any G bn gc XA xn xc x bl _ (by omega) (by omega) HXL.out HBLL.out (gs.call hSA) (hS4.call hSA)).mono ?_; rintro e V8 ⟨rfl, hq8⟩; rw [hsame]; have kO8 := (kO4.call hSA).call hq8; clear l0 l1 l2 l3 lf' lz; obtain ⟨l0, l1, l2, l3, lf', lz⟩ := kO8.four) | fail)
                have hB8 := hSA.trans (hq8.mono hSA.size)
                go_roundw
                case rel => exact ⟨i + 1, by go_num, by omega, by rw [hnx], hB8⟩
                case measure => simp [intOf]; omega
          · have hng3 : ¬ (o.le ≤ nk ∧ nk ≤ o.mo ∧ kx = 1) := fun h => hng ⟨by rw [HBN.out, HK.out.1]; exact h.1, by rw [HBN.out, HK.out.1]; exact h.2.1, by rw [HK.out.2.2]; exact h.2.2⟩
            clear hng
            cases bef
            · by_cases a1 : o.le ≤ nk
              · by_cases a2 : nk ≤ o.mo
                · have a3 : kx ≠ 1 := fun h => hng3 ⟨a1, a2, h⟩
                  have d1 : decide (o.le ≤ nk) = true := by simp; omega
                  have d2 : decide (nk ≤ o.mo) = true := by simp; omega
                  have d3 : (kx == 1) = false := by simp; omega
                  clear a1 a2 a3
                  skip
                  obtain ⟨l0, l1, l2, l3, lf', lz⟩ := (kO4.call hSA).four
                  have gx3 := cellC hSA gx
                  go_wp2_with (first | (go_at_call 23; refine (equalInts_any G bn gc XA xn xc x bl _ (by omega) (by omega) HXL.out HBLL.out (gs.call hSA) (hS4.call hSA)).mono ?_; rintro e V8 ⟨rfl, hq8⟩; rw [hsame]; have kO8 := (kO4.call hSA).call hq8; clear l0 l1 l2 l3 lf' lz; obtain ⟨l0, l1, l2, l3, lf', lz⟩ := kO8.four) | fail)
                  have hB8 := hSA.trans (hq8.mono hSA.size)
                  go_roundw
                  case rel => exact ⟨i + 1, by go_num, by omega, by rw [hnx], hB8⟩
                  case measure => simp [intOf]; omega
                · have d1 : decide (o.le ≤ nk) = true := by simp; omega
                  have d2 : decide (nk ≤ o.mo) = false := by simp; omega
                  clear a1 a2
                  skip
                  obtain ⟨l0, l1, l2, l3, lf', lz⟩ := (kO4.call hSA).four
                  have gx3 := cellC hSA gx
                  go_wp2_with (first | (go_at_call 23; refine (equalInts_any G bn gc XA xn xc x bl _ (by omega) (by omega) HXL.out HBLL.out (gs.call hSA) (hS4.call hSA)).mono ?_; rintro e V8 ⟨rfl, hq8⟩; rw [hsame]; have kO8 := (kO4.call hSA).call hq8; clear l0 l1 l2 l3 lf' lz; obtain ⟨l0, l1, l2, l3, lf', lz⟩ := kO8.four) | fail)
                  have hB8 := hSA.trans (hq8.mono hSA.size)
                  go_roundw
                  case rel => exact ⟨i + 1, by go_num, by omega, by rw [hnx], hB8⟩
                  case measure => simp [intOf]; omega
              · have d1 : decide (o.le ≤ nk) = false := by simp; omega
                clear a1
                skip
                obtain ⟨l0, l1, l2, l3, lf', lz⟩ := (kO4.call hSA).four
                have gx3 := cellC hSA gx
                go_wp2_with (first | (go_at_call 23; refine (equalInts_any G bn gc XA xn xc x bl _ (by omega) (by omega) HXL.out HBLL.out (gs.call hSA) (hS4.call hSA)).mono ?_; rintro e V8 ⟨rfl, hq8⟩; rw [hsame]; have kO8 := (kO4.call hSA).call hq8; clear l0 l1 l2 l3 lf' lz; obtain ⟨l0, l1, l2, l3, lf', lz⟩ := kO8.four) | fail)
                have hB8 := hSA.trans (hq8.mono hSA.size)
                go_roundw
                case rel => exact ⟨i + 1, by go_num, by omega, by rw [hnx], hB8⟩
                case measure => simp [intOf]; omega
            · by_cases a1 : o.le ≤ nk
              · by_cases a2 : nk ≤ o.mo
                · have a3 : kx ≠ 1 := fun h => hng3 ⟨a1, a2, h⟩
                  have d1 : decide (o.le ≤ nk) = true := by simp; omega
                  have d2 : decide (nk ≤ o.mo) = true := by simp; omega
                  have d3 : (kx == 1) = false := by simp; omega
                  clear a1 a2 a3
                  skip
                  obtain ⟨l0, l1, l2, l3, lf', lz⟩ := (kO4.call hSA).four
                  have gx3 := cellC hSA gx
                  go_wp2_with (first | (go_at_call 23; refine (equalInts_any G bn gc XA xn xc x bl _ (by omega) (by omega) HXL.out HBLL.out (gs.call hSA) (hS4.call hSA)).mono ?_; rintro e V8 ⟨rfl, hq8⟩; rw [hsame]; have kO8 := (kO4.call hSA).call hq8; clear l0 l1 l2 l3 lf' lz; obtain ⟨l0, l1, l2, l3, lf', lz⟩ := kO8.four) | fail)
                  have hB8 := hSA.trans (hq8.mono hSA.size)
                  go_roundw
                  case rel => exact ⟨i + 1, by go_num, by omega, by rw [hnx], hB8⟩
                  case measure => simp [intOf]; omega
                · have d1 : decide (o.le ≤ nk) = true := by simp; omega
                  have d2 : decide (nk ≤ o.mo) = false := by simp; omega
                  clear a1 a2
                  skip
                  obtain ⟨l0, l1, l2, l3, lf', lz⟩ := (kO4.call hSA).four
                  have gx3 := cellC hSA gx
                  go_wp2_with (first | (go_at_call 23; refine (equalInts_any G bn gc XA xn xc x bl _ (by omega) (by omega) HXL.out HBLL.out (gs.call hSA) (hS4.call hSA)).mono ?_; rintro e V8 ⟨rfl, hq8⟩; rw [hsame]; have kO8 := (kO4.call hSA).call hq8; clear l0 l1 l2 l3 lf' lz; obtain ⟨l0, l1, l2, l3, lf', lz⟩ := kO8.four) | fail)
                  have hB8 := hSA.trans (hq8.mono hSA.size)
                  go_roundw
                  case rel => exact ⟨i + 1, by go_num, by omega, by rw [hnx], hB8⟩
                  case measure => simp [intOf]; omega
              · have d1 : decide (o.le ≤ nk) = false := by simp; omega
                clear a1
                skip
                obtain ⟨l0, l1, l2, l3, lf', lz⟩ := (kO4.call hSA).four
                have gx3 := cellC hSA gx
                go_wp2_with (first | (go_at_call 23; refine (equalInts_any G bn gc XA xn xc x bl _ (by omega) (by omega) HXL.out HBLL.out (gs.call hSA) (hS4.call hSA)).mono ?_; rintro e V8 ⟨rfl, hq8⟩; rw [hsame]; have kO8 := (kO4.call hSA).call hq8; clear l0 l1 l2 l3 lf' lz; obtain ⟨l0, l1, l2, l3, lf', lz⟩ := kO8.four) | fail)
                have hB8 := hSA.trans (hq8.mono hSA.size)
                go_roundw
                case rel => exact ⟨i + 1, by go_num, by omega, by rw [hnx], hB8⟩
                case measure => simp [intOf]; omega
      · have hng : ¬ Good o (lf x) := hno (lf x) HXF.out.inb (rk_lt HXF.out.inb)
        have hng3 : ¬ (o.le ≤ nk ∧ nk ≤ o.mo ∧ kx = 1) := fun h => hng ⟨by rw [HBN.out, HK.out.1]; exact h.1, by rw [HBN.out, HK.out.1]; exact h.2.1, by rw [HK.out.2.2]; exact h.2.2⟩
        clear hng hno
        have hnx : befB 13 bl all (i + 1) = true := befB_none _ _ _
        obtain rfl : bef = true := by rw [← HBEF.out]; exact befB_none _ _ _
        by_cases a1 : o.le ≤ nk
        · by_cases a2 : nk ≤ o.mo
          · have a3 : kx ≠ 1 := fun h => hng3 ⟨a1, a2, h⟩
            have d1 : decide (o.le ≤ nk) = true := by simp; omega
            have d2 : decide (nk ≤ o.mo) = true := by simp; omega
            have d3 : (kx == 1) = false := by simp; omega
            clear a1 a2 a3
            skip
            obtain ⟨l0, l1, l2, l3, lf', lz⟩ := (kO4.call hSA).four
            have gx3 := cellC hSA gx
            go_wp2_with fail
            have hB8 := hSA
            go_roundw
            case rel => exact ⟨i + 1, by go_num, by omega, by rw [hnx], hB8⟩
            case measure => simp [intOf]; omega
          · have d1 : decide (o.le ≤ nk) = true := by simp; omega
            have d2 : decide (nk ≤ o.mo) = false := by simp; omega
            clear a1 a2
            skip
            obtain ⟨l0, l1, l2, l3, lf', lz⟩ := (kO4.call hSA).four
            have gx3 := cellC hSA gx
            go_wp2_with fail
            have hB8 := hSA
            go_roundw
            case rel => exact ⟨i + 1, by go_num, by omega, by rw [hnx], hB8⟩
            case measure => simp [intOf]; omega
        · have d1 : decide (o.le ≤ nk) = false := by simp; omega
          clear a1
          skip
          obtain ⟨l0, l1, l2, l3, lf', lz⟩ := (kO4.call hSA).four
          have gx3 := cellC hSA gx
          go_wp2_with fail
          have hB8 := hSA
          go_roundw
          case rel => exact ⟨i + 1, by go_num, by omega, by rw [hnx], hB8⟩
          case measure => simp [intOf]; omega
    · obtain rfl : i = nn := by omega
      rcases HE.out with ⟨rfl, d, hd, hbld, hcc⟩ | ⟨rfl, hno⟩
      · have hmem : bl ∈ all := by
          rw [← HALL.out.1, hbld]
          exact mem_allB.2 (inb_fit HOK.out.b2 hd.1)
        obtain rfl : bef = false := by
          rw [← hbef, ← HALL.out.2]; exact befB_mem hmem
        clear hd hbld hcc hbef hmem
        go_wp2_with (first | (go_at_call 19; refine (alive_any _).mono ?_; rintro e V9 ⟨rfl, hq9⟩) | fail)
        go_ret
        have h9 := hUr.trans (hq9.mono hUr.size)
        exact ⟨rfl, hB4.trans (h9.mono hB4.size)⟩
      · obtain rfl : bef = true := by rw [← hbef]; exact befB_none _ _ _
        clear hno hbef
        go_wp2_with (first | (go_at_call 19; refine (alive_any _).mono ?_; rintro e V9 ⟨rfl, hq9⟩) | fail)
        go_ret
        have h9 := hUr.trans (hq9.mono hUr.size)
        exact ⟨rfl, hB4.trans (h9.mono hB4.size)⟩
end Go.Proofs.Ytmemcopfeabcgaa
