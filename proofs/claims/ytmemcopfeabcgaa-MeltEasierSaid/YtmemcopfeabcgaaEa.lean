/- MeltEasier. -/
import Derived.Test.YtmemcopfeabcgaaEz
set_option linter.unusedSimpArgs false
set_option linter.unusedVariables false
namespace Go.Proofs.Ytmemcopfeabcgaa
open Go Go.RowKit
theorem own_pair {w : World} {b q n c : Nat} {l : List (Int × Int)} (h : w.ownsRow b 39 2 (.slice (some ⟨q, 0, none⟩) n c) n (gnr l).flatten) (hl : l.length = n) {j : Nat} {p : Int × Int} (hj : l[j]? = some p) : w.cell? ⟨q, j * 2, none⟩ = some (.int .i64 p.1) ∧ w.cell? ⟨q, j * 2 + 1, none⟩ = some (.int .i64 p.2) := by
  have hjl : j < l.length := (List.getElem?_eq_some_iff.1 hj).1
  obtain ⟨ad, e, _, h0, h1⟩ := gnr_at (own_gnr h hl) hjl
  rw [List.getElem?_eq_getElem hjl, Option.some.injEq] at hj
  rw [hj] at h0 h1
  simp only [Option.some.injEq] at e
  subst e
  have e : (⟨q, 0, none⟩ : Addr).add (j * 2) = ⟨q, j * 2, none⟩ := by unfold Addr.add; split <;> simp_all
  rw [e] at h0 h1
  exact ⟨h0, h1⟩
set_option maxRecDepth 100000 in
set_option maxHeartbeats 8000000 in
theorem meltEasier_run (A : Option Addr) (n c : Nat) (L : List Int) (w : World) (hn : n ≤ 9000000000000000000) (hl : L.length = n) (hA : Sl w w.heap.size 1 A (ints L)) : Calls Try.prog 8 #[.slice A n c] w fun e w' => e = .returned (.bool true) ∧ Below w.heap.size w w' := by
  have HL := Lib.hid hl
  clear hl
  obtain ⟨i3, hi3, hz3, hs3, iy3⟩ := info_parts info3'
  obtain ⟨i22, hi22, hz22, hs22, iy22⟩ := info_parts info22
  go_enter Try.func8, Try.ntmps8
  go_upto_region 3 with (first
    | (go_at_call 13; refine (feedOf_any A n c L _ hn HL.out hA).mono ?_; rintro e w1 ⟨⟨g, rfl, hg0, hfd⟩, hb1⟩)
    | (go_at_call 14; refine (orderOf_any g 3 2 4 _ hfd (by omega) (by omega) (by omega) (by omega) (by omega) (by omega)).mono ?_; rintro e w2 ⟨o, LA, BA, lc, bc, rfl, hsm, hO0, hfd2, hgr2⟩)
    | fail)
  have hok := hsm.ok (by omega) (by omega) (by omega)
  have HSM := Lib.hid hsm
  obtain ⟨ln, hln⟩ : ∃ k, o.lm.length = k := ⟨_, rfl⟩
  obtain ⟨bn, hbn⟩ : ∃ k, o.bs.length = k := ⟨_, rfl⟩
  have hln3 : ln ≤ 3 := by rw [← hln]; exact hok.lm
  have hbn4 : bn ≤ 4 := by rw [← hbn]; exact hok.b2
  have hbn1 : 1 ≤ bn := by rw [← hbn]; exact hok.b1
  rw [hln, hbn]
  have hBw : Below w.heap.size w w2 := hb1.grown hgr2 hb1.size (fun k e => by cases e; exact hg0)
  have B1 := (Below.refl w2.heap.size w2).alloc (Nat.le_refl _) (.cells #[.slice LA ln lc, .int .i64 o.le, .int .i64 o.mo, .slice BA bn bc] 27)
  have kO := Bx.new w2 27 #[.slice LA ln lc, .int .i64 o.le, .int .i64 o.mo, .slice BA bn bc]
  have hO := hO0.call B1
  have hF := hfd2.alloc (.cells #[.slice LA ln lc, .int .i64 o.le, .int .i64 o.mo, .slice BA bn bc] 27)
  have hB := hBw.alloc hBw.size (.cells #[.slice LA ln lc, .int .i64 o.le, .int .i64 o.mo, .slice BA bn bc] 27)
  have hgl := hfd2.lt
  obtain ⟨V1, hV⟩ : ∃ V, w2.alloc (.cells #[.slice LA ln lc, .int .i64 o.le, .int .i64 o.mo, .slice BA bn bc] 27) = V := ⟨_, rfl⟩
  rw [hV] at kO hO hF hB ⊢
  obtain ⟨bO, hbO⟩ : ∃ b, w2.heap.size = b := ⟨_, rfl⟩
  rw [hbO] at kO ⊢
  have hgO : bO ≠ g := by omega
  have HLN := Lib.hid hln
  have HBN := Lib.hid hbn
  have HOK := Lib.hid hok
  have hwg := hg0
  clear hV hbO B1 hO0 hfd2 hgr2 hb1 hfd hln hbn hok hBw hsm hgl
  obtain ⟨l0, l1, l2, l3, lf', lz⟩ := kO.four
  go_upto_region 4 with (first
    | (go_at_call 31; refine (copyOrder_apt LA ln lc BA bn bc o _ HLN.out HBN.out hO HOK.out).mono ?_; rintro e y5 ⟨XA, xc, YA, yc, rs, rfl, ox, oy, bo, hq, hap⟩)
    | fail)
  clear l0 l1 l2 l3 lf' lz
  obtain ⟨yq, rfl⟩ := own_some oy (by omega)
  have C0 : CI V1 o.lm o.bs o.le o.mo (.slice XA ln xc) (.slice (some ⟨yq, 0, none⟩) bn yc) rs y5.heap.size (y5.alloc (.cells #[.slice XA ln xc, .int .i64 o.le, .int .i64 o.mo, .slice (some ⟨yq, 0, none⟩) bn yc] 27)) :=
    ⟨Bx.new _ _ _, by rw [HLN.out]; exact ox.alloc _, by rw [HBN.out]; exact oy.alloc _, bo.bel ((Below.refl _ _).alloc (Nat.le_refl _) _), hq.alloc hq.size _, hq.size⟩
  have I0 := XI.of C0 hF hap
  obtain ⟨X, hX⟩ : ∃ X, y5.alloc (.cells #[.slice XA ln xc, .int .i64 o.le, .int .i64 o.mo, .slice (some ⟨yq, 0, none⟩) bn yc] 27) = X := ⟨_, rfl⟩
  rw [hX] at I0 ⊢
  obtain ⟨q, hqq⟩ : ∃ q, y5.heap.size = q := ⟨_, rfl⟩
  rw [hqq] at I0 ⊢
  clear hX hqq ox oy bo hq C0 hap
  have hs0 := HSM.out.le0
  have hs1 := HSM.out.lem
  have hs2 := HSM.out.mo
  have hqg : q ≠ g := by have := I0.hq; have := I0.hg; omega
  go_wp2_with fail
  go_loopw [6] (fun v wr => ∃ (i : Nat) (lm' : List Int), v = .int .i64 i ∧ i ≤ ln ∧ EzL o.lm lm' i ∧ XI g V1 lm' o.bs o.le o.mo (.slice XA ln xc) (.slice (some ⟨yq, 0, none⟩) bn yc) rs q wr) (fun v _ => ln - (intOf v).toNat)
  case atStart => exact ⟨0, o.lm, rfl, by omega, .start _, I0⟩
  case round =>
    clear I0
    obtain ⟨i, lm', rfl, hi, hh, C⟩ := hrel
    obtain ⟨q0, q1, q2, q3, qf, qz⟩ := C.k.four
    by_cases hin : i < ln
    · have hil : i < o.lm.length := by rw [HLN.out]; exact hin
      obtain ⟨a, ha⟩ : ∃ a, o.lm[i]? = some a := ⟨_, List.getElem?_eq_getElem hil⟩
      have hll : lm'.length = ln := by rw [hh.len]; exact HLN.out
      have hil' : i < lm'.length := by rw [hll]; exact hin
      have hai : lm'[i] = a := (hh.row i a _ ha (List.getElem?_eq_getElem hil')).2.2 (Nat.le_refl _)
      have hab := HSM.out.li a (List.mem_of_getElem? ha)
      have OL := C.ol
      rw [hll] at OL
      obtain ⟨xq, rfl⟩ := own_some OL (by omega)
      have hjw : IntKind.i64.wrap ((i : Int) + 1) = (i : Int) + 1 := IntWalk.i64_in _ (by omega)
      have HF := C.ft.2
      have KQ := C.k
      have HH := Lib.hid hh
      have HA := Lib.hid ha
      have HC := Lib.hid C
      have HAI := Lib.hid hai
      clear hh ha C hai
      go_wp2_with fail
      clear q0 q1 q2 q3 qf qz
      refine AnyG.startC (by kernel_rfl) ?_
      refine AnyG.takeP (i := 0) (v := ?_) rfl (by kernel_rfl) (fun _ _ _ h => h) rfl ?_ ?_
      rotate_left
      · (intro w'; go_simp; try with_reducible rfl)
      try simp only [Act.put, List.getElem_toArray, List.getElem_cons_succ, List.getElem_cons_zero, List.setIfInBounds_toArray, List.set_cons_zero, List.set_cons_succ]
      refine AnyG.takeP (i := 2) (v := ?_) rfl (by kernel_rfl) (fun _ _ _ h => h) rfl ?_ ?_
      rotate_left
      · (intro w'; go_simp; try with_reducible rfl)
      try simp only [Act.put, List.getElem_toArray, List.getElem_cons_succ, List.getElem_cons_zero, List.setIfInBounds_toArray, List.set_cons_zero, List.set_cons_succ]
      refine AnyG.takeP (i := 3) (v := ?_) rfl (by kernel_rfl) (fun _ _ _ h => h) rfl ?_ ?_
      rotate_left
      · (intro w'; go_simp; try with_reducible rfl)
      try simp only [Act.put, List.getElem_toArray, List.getElem_cons_succ, List.getElem_cons_zero, List.setIfInBounds_toArray, List.set_cons_zero, List.set_cons_succ]
      refine AnyG.takeP (i := 5) (v := ?_) rfl (by kernel_rfl) (fun _ _ _ h => h) rfl ?_ ?_
      rotate_left
      · (intro w'; go_simp; try with_reducible rfl)
      try simp only [Act.put, List.getElem_toArray, List.getElem_cons_succ, List.getElem_cons_zero, List.setIfInBounds_toArray, List.set_cons_zero, List.set_cons_succ]
      refine AnyG.takeP (i := 8) (v := ?_) rfl (by kernel_rfl) (fun _ _ _ h => h) rfl ?_ ?_
      rotate_left
      · (intro w'; go_simp; try with_reducible rfl)
      try simp only [Act.put, List.getElem_toArray, List.getElem_cons_succ, List.getElem_cons_zero, List.setIfInBounds_toArray, List.set_cons_zero, List.set_cons_succ]
      refine AnyG.takeP (i := 9) (v := ?_) rfl (by kernel_rfl) (fun _ _ _ h => h) rfl ?_ ?_
      rotate_left
      · (intro w'; go_simp; try with_reducible rfl)
      try simp only [Act.put, List.getElem_toArray, List.getElem_cons_succ, List.getElem_cons_zero, List.setIfInBounds_toArray, List.set_cons_zero, List.set_cons_succ]
      refine AnyG.enter (fun w' : World => FT g wr w') (fun i => i != 15) ?_
      have hS : (fun w' : World => FT g wr w') (World.drew _) := (FT.self HF).drew
      refine AnyG.takeC (i := 1) (v := ?_) rfl (by kernel_rfl) (fun _ _ _ h => h) rfl ?_ hS ?_
      rotate_left
      · (intro w' hSw; (try dsimp only at hSw); obtain ⟨q0, q1, q2, q3, qf, qz⟩ := (hSw.bx KQ hqg).four; go_simp; try with_reducible rfl)
      try simp only [Act.put, List.getElem_toArray, List.getElem_cons_succ, List.getElem_cons_zero, List.setIfInBounds_toArray, List.set_cons_zero, List.set_cons_succ]
      refine AnyG.takeC (i := 4) (v := ?_) rfl (by kernel_rfl) (fun _ _ _ h => h) rfl ?_ hS ?_
      rotate_left
      · (intro w' hSw; (try dsimp only at hSw); obtain ⟨q0, q1, q2, q3, qf, qz⟩ := (hSw.bx KQ hqg).four; go_simp; try with_reducible rfl)
      try simp only [Act.put, List.getElem_toArray, List.getElem_cons_succ, List.getElem_cons_zero, List.setIfInBounds_toArray, List.set_cons_zero, List.set_cons_succ]
      refine AnyG.takeC (i := 6) (v := ?_) rfl (by kernel_rfl) (fun _ _ _ h => h) rfl ?_ hS ?_
      rotate_left
      · (intro w' hSw; (try dsimp only at hSw); go_simp; try with_reducible rfl)
      try simp only [Act.put, List.getElem_toArray, List.getElem_cons_succ, List.getElem_cons_zero, List.setIfInBounds_toArray, List.set_cons_zero, List.set_cons_succ]
      refine AnyG.takeC (i := 7) (v := ?_) rfl (by kernel_rfl) (fun _ _ _ h => h) rfl ?_ hS ?_
      rotate_left
      · (intro w' hSw; (try dsimp only at hSw); have p7 := own_num (hSw.row HF OL (by decide)) hll hil'; rw [HAI.out] at p7; go_simp; try with_reducible rfl)
      try simp only [Act.put, List.getElem_toArray, List.getElem_cons_succ, List.getElem_cons_zero, List.setIfInBounds_toArray, List.set_cons_zero, List.set_cons_succ]
      refine AnyG.one (i := 10) (by kernel_rfl) rfl rfl ?_
      go_simp
      refine (below_any g 50 _ hS.2 (by omega) (by omega)).mono ?_
      rintro er y10 ⟨⟨r, rfl, r1, r2⟩, hf10, hg10⟩
      have hT10 := hS.call hg10 hf10
      refine Onward.on hT10 (fun hS2 => ?_)
      clear hS
      have hS := hS2
      clear hS2
      try simp only [Act.put, List.getElem_toArray, List.getElem_cons_succ, List.getElem_cons_zero, List.setIfInBounds_toArray, List.set_cons_zero, List.set_cons_succ]
      refine AnyG.one (i := 11) (by kernel_rfl) rfl rfl ?_
      go_simp
      refine Onward.on (hS.alloc _) (fun hS2 => ?_)
      clear hS
      have hS := hS2
      clear hS2
      try simp only [Act.put, List.getElem_toArray, List.getElem_cons_succ, List.getElem_cons_zero, List.setIfInBounds_toArray, List.set_cons_zero, List.set_cons_succ]
      refine AnyG.one (i := 12) (by kernel_rfl) rfl rfl ?_
      go_simp
      refine (either_any g _ 2 _ (fun r => 0 ≤ r ∧ r ≤ 49) _ hS.2 (Bx.new _ _ _) (by have := hT10.2.lt; omega) (by omega) (by omega) (bx2 _ ⟨by omega, by omega⟩ ⟨by omega, by omega⟩)).mono ?_
      rintro er y12 ⟨⟨d, rfl, d1, d2⟩, hf12, hg12⟩
      have hT12 := hS.call hg12 hf12
      have hlw : IntKind.i64.wrap (a + d) = a + d := IntWalk.i64_in _ (by omega)
      refine Onward.on hT12 (fun hS2 => ?_)
      clear hS
      have hS := hS2
      clear hS2
      try simp only [Act.put, List.getElem_toArray, List.getElem_cons_succ, List.getElem_cons_zero, List.setIfInBounds_toArray, List.set_cons_zero, List.set_cons_succ]
      refine AnyG.takeC (i := 13) (v := ?_) rfl (by kernel_rfl) (fun _ _ _ h => h) rfl ?_ hS ?_
      rotate_left
      · (intro w' hSw; (try dsimp only at hSw); go_simp; try with_reducible rfl)
      try simp only [Act.put, List.getElem_toArray, List.getElem_cons_succ, List.getElem_cons_zero, List.setIfInBounds_toArray, List.set_cons_zero, List.set_cons_succ]
      refine AnyG.takeC (i := 14) (v := ?_) rfl (by kernel_rfl) (fun _ _ _ h => h) rfl ?_ hS ?_
      rotate_left
      · (intro w' hSw; (try dsimp only at hSw); go_simp; try with_reducible rfl)
      try simp only [Act.put, List.getElem_toArray, List.getElem_cons_succ, List.getElem_cons_zero, List.setIfInBounds_toArray, List.set_cons_zero, List.set_cons_succ]
      refine AnyG.one (i := 15) (by kernel_rfl) rfl rfl ?_
      have p15 := own_num (hT12.row HF OL (by decide)) hll hil'
      have f15 := own_free (hT12.row HF OL (by decide))
      go_simp
      refine Onward.last rfl ?_
      try simp only [Act.put, List.getElem_toArray, List.getElem_cons_succ, List.getElem_cons_zero, List.setIfInBounds_toArray, List.set_cons_zero, List.set_cons_succ]
      refine AnyG.done (by kernel_rfl) ?_ _
      go_simp
      go_wp2_with fail
      go_roundw
      case rel => exact ⟨i + 1, _, by go_num, by omega, HH.out.step HA.out d1 d2, (HC.out.step hT12).lim hll hin (a + d)⟩
      case measure => simp [intOf]; omega
    · obtain rfl : i = ln := by omega
      have hll : lm'.length = i := by rw [hh.len]; exact HLN.out
      have HF := C.ft.2
      have KQ := C.k
      have HL' := Lib.hid hh
      have HC := Lib.hid C
      clear hh C
      go_wp2_with fail
      clear q0 q1 q2 q3 qf qz
      refine AnyG.startC (by kernel_rfl) ?_
      refine AnyG.takeP (i := 0) (v := ?_) rfl (by kernel_rfl) (fun _ _ _ h => h) rfl ?_ ?_
      rotate_left
      · (intro w'; go_simp; try with_reducible rfl)
      try simp only [Act.put, List.getElem_toArray, List.getElem_cons_succ, List.getElem_cons_zero, List.setIfInBounds_toArray, List.set_cons_zero, List.set_cons_succ]
      refine AnyG.takeP (i := 1) (v := ?_) rfl (by kernel_rfl) (fun _ _ _ h => h) rfl ?_ ?_
      rotate_left
      · (intro w'; go_simp; try with_reducible rfl)
      try simp only [Act.put, List.getElem_toArray, List.getElem_cons_succ, List.getElem_cons_zero, List.setIfInBounds_toArray, List.set_cons_zero, List.set_cons_succ]
      refine AnyG.takeP (i := 4) (v := ?_) rfl (by kernel_rfl) (fun _ _ _ h => h) rfl ?_ ?_
      rotate_left
      · (intro w'; go_simp; try with_reducible rfl)
      try simp only [Act.put, List.getElem_toArray, List.getElem_cons_succ, List.getElem_cons_zero, List.setIfInBounds_toArray, List.set_cons_zero, List.set_cons_succ]
      refine AnyG.takeP (i := 6) (v := ?_) rfl (by kernel_rfl) (fun _ _ _ h => h) rfl ?_ ?_
      rotate_left
      · (intro w'; go_simp; try with_reducible rfl)
      try simp only [Act.put, List.getElem_toArray, List.getElem_cons_succ, List.getElem_cons_zero, List.setIfInBounds_toArray, List.set_cons_zero, List.set_cons_succ]
      refine AnyG.enter (fun w' : World => FT g V1 w' ∧ ∃ z, Bx w' q 27 #[.slice XA i xc, .int .i64 z, .int .i64 o.mo, .slice (some ⟨yq, 0, none⟩) bn yc]) (fun i => i != 12) ?_
      have hS : (fun w' : World => FT g V1 w' ∧ ∃ z, Bx w' q 27 #[.slice XA i xc, .int .i64 z, .int .i64 o.mo, .slice (some ⟨yq, 0, none⟩) bn yc]) (World.drew _) := ⟨HC.out.ft.drew, _, KQ.drew⟩
      refine AnyG.takeC (i := 5) (v := ?_) rfl (by kernel_rfl) (fun _ _ _ h => h) rfl ?_ hS ?_
      rotate_left
      · (intro w' hSw; (try dsimp only at hSw); obtain ⟨-, z, kz⟩ := hSw; obtain ⟨q0, q1, q2, q3, qf, qz⟩ := kz.four; go_simp; try with_reducible rfl)
      try simp only [Act.put, List.getElem_toArray, List.getElem_cons_succ, List.getElem_cons_zero, List.setIfInBounds_toArray, List.set_cons_zero, List.set_cons_succ]
      refine AnyG.one (i := 2) (by kernel_rfl) rfl rfl ?_
      obtain ⟨q0, q1, q2, q3, qf, qz⟩ := KQ.drew.four
      go_simp
      refine Onward.on hS (fun hS2 => ?_)
      clear hS
      have hS := hS2
      clear hS2
      try simp only [Act.put, List.getElem_toArray, List.getElem_cons_succ, List.getElem_cons_zero, List.setIfInBounds_toArray, List.set_cons_zero, List.set_cons_succ]
      refine AnyG.one (i := 3) (by kernel_rfl) rfl rfl ?_
      clear q0 q1 q2 q3 qf qz
      go_simp
      refine (between_any g 0 o.le _ hS.1.2 (by omega) (by omega) (by omega) (by omega)).mono ?_
      rintro er y3 ⟨⟨le, rfl, le1, le2⟩, hf3, hg3⟩
      have hT3 : FT g wr y3 := (FT.self HF).drew.call hg3 hf3
      refine Onward.on ⟨hS.1.call hg3 hf3, _, hT3.bx KQ hqg⟩ (fun hS2 => ?_)
      clear hS
      have hS := hS2
      clear hS2
      try simp only [Act.put, List.getElem_toArray, List.getElem_cons_succ, List.getElem_cons_zero, List.setIfInBounds_toArray, List.set_cons_zero, List.set_cons_succ]
      refine AnyG.takeC (i := 9) (v := ?_) rfl (by kernel_rfl) (fun _ _ _ h => h) rfl ?_ hS ?_
      rotate_left
      · (intro w' hSw; (try dsimp only at hSw); go_simp; try with_reducible rfl)
      try simp only [Act.put, List.getElem_toArray, List.getElem_cons_succ, List.getElem_cons_zero, List.setIfInBounds_toArray, List.set_cons_zero, List.set_cons_succ]
      refine AnyG.one (i := 7) (by kernel_rfl) rfl rfl ?_
      go_simp
      refine (below_any g 4 _ hS.1.2 (by omega) (by omega)).mono ?_
      rintro er y7 ⟨⟨d, rfl, d1, d2⟩, hf7, hg7⟩
      have hT7 := hT3.call hg7 hf7
      have hlw : IntKind.i64.wrap (o.mo + d) = o.mo + d := IntWalk.i64_in _ (by omega)
      refine Onward.on ⟨hS.1.call hg7 hf7, _, hT7.bx KQ hqg⟩ (fun hS2 => ?_)
      clear hS
      have hS := hS2
      clear hS2
      try simp only [Act.put, List.getElem_toArray, List.getElem_cons_succ, List.getElem_cons_zero, List.setIfInBounds_toArray, List.set_cons_zero, List.set_cons_succ]
      refine AnyG.takeC (i := 8) (v := ?_) rfl (by kernel_rfl) (fun _ _ _ h => h) rfl ?_ hS ?_
      rotate_left
      · (intro w' hSw; (try dsimp only at hSw); go_simp; try with_reducible rfl)
      try simp only [Act.put, List.getElem_toArray, List.getElem_cons_succ, List.getElem_cons_zero, List.setIfInBounds_toArray, List.set_cons_zero, List.set_cons_succ]
      refine AnyG.one (i := 10) (by kernel_rfl) rfl rfl ?_
      have k7 := hT7.bx KQ hqg
      obtain ⟨q0, q1, q2, q3, qf, qz⟩ := k7.four
      go_simp
      clear q0 q1 q2 q3 qf qz
      have k8 := k7.set_ 1 (.int .i64 le)
      replace k8 : Bx (y7.setCell ⟨q, 1, none⟩ (.int .i64 le)) q 27 #[.slice XA i xc, .int .i64 le, .int .i64 o.mo, .slice (some ⟨yq, 0, none⟩) bn yc] := by simpa using k8
      refine Onward.on ⟨hS.1.set_ HC.out.hq (Ne.symm hqg) _ _, _, k8⟩ (fun hS2 => ?_)
      clear hS
      have hS := hS2
      clear hS2
      try simp only [Act.put, List.getElem_toArray, List.getElem_cons_succ, List.getElem_cons_zero, List.setIfInBounds_toArray, List.set_cons_zero, List.set_cons_succ]
      refine AnyG.one (i := 11) (by kernel_rfl) rfl rfl ?_
      go_simp
      refine Onward.on hS (fun hS2 => ?_)
      clear hS
      have hS := hS2
      clear hS2
      try simp only [Act.put, List.getElem_toArray, List.getElem_cons_succ, List.getElem_cons_zero, List.setIfInBounds_toArray, List.set_cons_zero, List.set_cons_succ]
      refine AnyG.one (i := 12) (by kernel_rfl) rfl rfl ?_
      obtain ⟨q0, q1, q2, q3, qf, qz⟩ := k8.four
      go_simp
      refine Onward.last rfl ?_
      try simp only [Act.put, List.getElem_toArray, List.getElem_cons_succ, List.getElem_cons_zero, List.setIfInBounds_toArray, List.set_cons_zero, List.set_cons_succ]
      refine AnyG.done (by kernel_rfl) ?_ _
      go_simp
      clear q0 q1 q2 q3 qf qz k7 k8
      have X2 := ((HC.out.step hT7).num 1 le le o.mo (by simp)).num 2 (o.mo + d) le (o.mo + d) (by simp)
      obtain ⟨W2, hW2⟩ : ∃ Z, (y7.setCell ⟨q, 1, none⟩ (.int .i64 le)).setCell ⟨q, 2, none⟩ (.int .i64 (o.mo + d)) = Z := ⟨_, rfl⟩
      rw [hW2] at X2 ⊢
      clear hW2 hT7 hT3 hf3 hg3 hf7 hg7 hS HC KQ HF hlw
      have hle : 0 ≤ le ∧ le ≤ o.le := by omega
      have hmo : o.mo ≤ o.mo + d ∧ o.mo + d ≤ 2000 := by omega
      obtain ⟨mo, hmo'⟩ : ∃ m, o.mo + d = m := ⟨_, rfl⟩
      rw [hmo'] at X2 hmo ⊢
      clear hmo' d1 d2 le1 le2 hin hi
      go_wp2_with fail
      go_loopw [7] (fun v wr => ∃ (j : Nat) (bs' : List Bn) (rs : List (List Value)), v = .int .i64 j ∧ j ≤ bn ∧ EzBs o.bs bs' j ∧ XI g V1 lm' bs' le mo (.slice XA i xc) (.slice (some ⟨yq, 0, none⟩) bn yc) rs q wr) (fun v _ => bn - (intOf v).toNat)
      case atStart => exact ⟨0, o.bs, rs, rfl, by omega, .start HSM.out, X2⟩
      case round =>
        clear X2
        obtain ⟨j, bs', rs, rfl, hj, hh, C⟩ := hrel
        obtain ⟨q0, q1, q2, q3, qf, qz⟩ := C.k.four
        by_cases hjn : j < bn
        · have hjl : j < o.bs.length := by rw [HBN.out]; exact hjn
          obtain ⟨b, hb⟩ : ∃ b, o.bs[j]? = some b := ⟨_, List.getElem?_eq_getElem hjl⟩
          have hlen : bs'.length = bn := by rw [hh.len]; exact HBN.out
          obtain ⟨b', hb'⟩ : ∃ b', bs'[j]? = some b' := ⟨_, List.getElem?_eq_getElem (by omega)⟩
          obtain ⟨E, hg'⟩ := hh.row j b b' hb hb'
          replace hg' := hg' (Nat.le_refl _)
          obtain ⟨z1, z2, z3, z4, z5, z6, z7, z8⟩ := HSM.out.bn b (List.mem_of_getElem? hb)
          have hgl : b'.gr.length = i := by rw [E.len, z1]; exact HLN.out
          have hc0 := E.c0
          have hc1 := E.c
          have hjw : IntKind.i64.wrap ((j : Int) + 1) = (j : Int) + 1 := IntWalk.i64_in _ (by omega)
          have HF := C.ft.2
          have KQ := C.k
          have PA := fun (x : World) (hx : FT g wr x) => (C.step hx).at_ hlen hb'
          obtain ⟨ct, hct⟩ : ∃ x, b'.c = x := ⟨_, rfl⟩
          obtain ⟨gt, hgt⟩ : ∃ x, b'.g = x := ⟨_, rfl⟩
          rw [hct] at hc0 hc1
          rw [hgt] at hg'
          simp only [hct, hgt] at PA
          have HE := Lib.hid E
          have HG := Lib.hid hg'
          have HCT := Lib.hid (And.intro hct hgt)
          have HH := Lib.hid hh
          have HB := Lib.hid (And.intro hb hb')
          have HC := Lib.hid C
          have HPA := Lib.hid PA
          clear hh hb hb' C E PA hct hgt z1 z2 hg'
          go_wp2_with fail
          clear q0 q1 q2 q3 qf qz
          refine AnyG.startC (by kernel_rfl) ?_
          refine AnyG.takeP (i := 0) (v := ?_) rfl (by kernel_rfl) (fun _ _ _ h => h) rfl ?_ ?_
          rotate_left
          · (intro w'; go_simp; try with_reducible rfl)
          try simp only [Act.put, List.getElem_toArray, List.getElem_cons_succ, List.getElem_cons_zero, List.setIfInBounds_toArray, List.set_cons_zero, List.set_cons_succ]
          refine AnyG.takeP (i := 1) (v := ?_) rfl (by kernel_rfl) (fun _ _ _ h => h) rfl ?_ ?_
          rotate_left
          · (intro w'; go_simp; try with_reducible rfl)
          try simp only [Act.put, List.getElem_toArray, List.getElem_cons_succ, List.getElem_cons_zero, List.setIfInBounds_toArray, List.set_cons_zero, List.set_cons_succ]
          refine AnyG.takeP (i := 2) (v := ?_) rfl (by kernel_rfl) (fun _ _ _ h => h) rfl ?_ ?_
          rotate_left
          · (intro w'; go_simp; try with_reducible rfl)
          try simp only [Act.put, List.getElem_toArray, List.getElem_cons_succ, List.getElem_cons_zero, List.setIfInBounds_toArray, List.set_cons_zero, List.set_cons_succ]
          refine AnyG.takeP (i := 3) (v := ?_) rfl (by kernel_rfl) (fun _ _ _ h => h) rfl ?_ ?_
          rotate_left
          · (intro w'; go_simp; try with_reducible rfl)
          try simp only [Act.put, List.getElem_toArray, List.getElem_cons_succ, List.getElem_cons_zero, List.setIfInBounds_toArray, List.set_cons_zero, List.set_cons_succ]
          refine AnyG.takeP (i := 4) (v := ?_) rfl (by kernel_rfl) (fun _ _ _ h => h) rfl ?_ ?_
          rotate_left
          · (intro w'; go_simp; try with_reducible rfl)
          try simp only [Act.put, List.getElem_toArray, List.getElem_cons_succ, List.getElem_cons_zero, List.setIfInBounds_toArray, List.set_cons_zero, List.set_cons_succ]
          refine AnyG.takeP (i := 5) (v := ?_) rfl (by kernel_rfl) (fun _ _ _ h => h) rfl ?_ ?_
          rotate_left
          · (intro w'; go_simp; try with_reducible rfl)
          try simp only [Act.put, List.getElem_toArray, List.getElem_cons_succ, List.getElem_cons_zero, List.setIfInBounds_toArray, List.set_cons_zero, List.set_cons_succ]
          refine AnyG.takeP (i := 8) (v := ?_) rfl (by kernel_rfl) (fun _ _ _ h => h) rfl ?_ ?_
          rotate_left
          · (intro w'; go_simp; try with_reducible rfl)
          try simp only [Act.put, List.getElem_toArray, List.getElem_cons_succ, List.getElem_cons_zero, List.setIfInBounds_toArray, List.set_cons_zero, List.set_cons_succ]
          refine AnyG.takeP (i := 9) (v := ?_) rfl (by kernel_rfl) (fun _ _ _ h => h) rfl ?_ ?_
          rotate_left
          · (intro w'; go_simp; try with_reducible rfl)
          try simp only [Act.put, List.getElem_toArray, List.getElem_cons_succ, List.getElem_cons_zero, List.setIfInBounds_toArray, List.set_cons_zero, List.set_cons_succ]
          refine AnyG.takeP (i := 10) (v := ?_) rfl (by kernel_rfl) (fun _ _ _ h => h) rfl ?_ ?_
          rotate_left
          · (intro w'; go_simp; try with_reducible rfl)
          try simp only [Act.put, List.getElem_toArray, List.getElem_cons_succ, List.getElem_cons_zero, List.setIfInBounds_toArray, List.set_cons_zero, List.set_cons_succ]
          refine AnyG.takeP (i := 12) (v := ?_) rfl (by kernel_rfl) (fun _ _ _ h => h) rfl ?_ ?_
          rotate_left
          · (intro w'; go_simp; try with_reducible rfl)
          try simp only [Act.put, List.getElem_toArray, List.getElem_cons_succ, List.getElem_cons_zero, List.setIfInBounds_toArray, List.set_cons_zero, List.set_cons_succ]
          refine AnyG.enter (fun w' : World => FT g V1 w' ∧ w'.cell? ⟨yq, j * 4 + 3, none⟩ = some (.int .i64 gt)) (fun i => i != 20) ?_
          have hS : (fun w' : World => FT g V1 w' ∧ w'.cell? ⟨yq, j * 4 + 3, none⟩ = some (.int .i64 gt)) (World.drew _) := ⟨HC.out.ft.drew, (by obtain ⟨G, gc, p0, p1, p2, p3, -, -⟩ := HPA.out _ (FT.self HF).drew; exact p3)⟩
          refine AnyG.takeC (i := 11) (v := ?_) rfl (by kernel_rfl) (fun _ _ _ h => h) rfl ?_ hS ?_
          rotate_left
          · (intro w' hSw; (try dsimp only at hSw); have p3 := hSw.2; go_simp; try with_reducible rfl)
          try simp only [Act.put, List.getElem_toArray, List.getElem_cons_succ, List.getElem_cons_zero, List.setIfInBounds_toArray, List.set_cons_zero, List.set_cons_succ]
          refine AnyG.one (i := 6) (by kernel_rfl) rfl rfl ?_
          obtain ⟨G, gc, p0, p1, p2, p3, -, -⟩ := HPA.out _ (FT.self HF).drew
          go_simp
          refine Onward.on hS (fun hS2 => ?_)
          clear hS
          have hS := hS2
          clear hS2
          try simp only [Act.put, List.getElem_toArray, List.getElem_cons_succ, List.getElem_cons_zero, List.setIfInBounds_toArray, List.set_cons_zero, List.set_cons_succ]
          refine AnyG.one (i := 7) (by kernel_rfl) rfl rfl ?_
          clear p0 p1 p2 p3
          go_simp
          refine (between_any g 0 ct _ hS.1.2 (by omega) (by omega) (by omega) (by omega)).mono ?_
          rintro er y7 ⟨⟨nc, rfl, nc1, nc2⟩, hf7, hg7⟩
          have hT7 : FT g wr y7 := (FT.self HF).drew.call hg7 hf7
          refine Onward.on ⟨hS.1.call hg7 hf7, (by obtain ⟨G, gc, p0, p1, p2, p3, -, -⟩ := HPA.out _ hT7; exact p3)⟩ (fun hS2 => ?_)
          clear hS
          have hS := hS2
          clear hS2
          try simp only [Act.put, List.getElem_toArray, List.getElem_cons_succ, List.getElem_cons_zero, List.setIfInBounds_toArray, List.set_cons_zero, List.set_cons_succ]
          refine AnyG.one (i := 13) (by kernel_rfl) rfl rfl ?_
          go_simp
          refine (below_any g 2 _ hS.1.2 (by omega) (by omega)).mono ?_
          rintro er y13 ⟨⟨d, rfl, d1, d2⟩, hf13, hg13⟩
          have hT13 := hT7.call hg13 hf13
          have hlw : IntKind.i64.wrap (gt + d) = gt + d := IntWalk.i64_in _ (by have := HG.out; omega)
          refine Onward.on ⟨hS.1.call hg13 hf13, (by obtain ⟨G, gc, p0, p1, p2, p3, -, -⟩ := HPA.out _ hT13; exact p3)⟩ (fun hS2 => ?_)
          clear hS
          have hS := hS2
          clear hS2
          try simp only [Act.put, List.getElem_toArray, List.getElem_cons_succ, List.getElem_cons_zero, List.setIfInBounds_toArray, List.set_cons_zero, List.set_cons_succ]
          refine AnyG.takeC (i := 14) (v := ?_) rfl (by kernel_rfl) (fun _ _ _ h => h) rfl ?_ hS ?_
          rotate_left
          · (intro w' hSw; (try dsimp only at hSw); go_simp; try with_reducible rfl)
          try simp only [Act.put, List.getElem_toArray, List.getElem_cons_succ, List.getElem_cons_zero, List.setIfInBounds_toArray, List.set_cons_zero, List.set_cons_succ]
          refine AnyG.takeC (i := 15) (v := ?_) rfl (by kernel_rfl) (fun _ _ _ h => h) rfl ?_ hS ?_
          rotate_left
          · (intro w' hSw; (try dsimp only at hSw); go_simp; try with_reducible rfl)
          try simp only [Act.put, List.getElem_toArray, List.getElem_cons_succ, List.getElem_cons_zero, List.setIfInBounds_toArray, List.set_cons_zero, List.set_cons_succ]
          refine AnyG.takeC (i := 16) (v := ?_) rfl (by kernel_rfl) (fun _ _ _ h => h) rfl ?_ hS ?_
          rotate_left
          · (intro w' hSw; (try dsimp only at hSw); go_simp; try with_reducible rfl)
          try simp only [Act.put, List.getElem_toArray, List.getElem_cons_succ, List.getElem_cons_zero, List.setIfInBounds_toArray, List.set_cons_zero, List.set_cons_succ]
          refine AnyG.one (i := 17) (by kernel_rfl) rfl rfl ?_
          obtain ⟨G, gc, p0, p1, p2, p3, -, -⟩ := HPA.out _ hT13
          have f17 := own_free (by have := (HC.out.step hT13).ob; rw [hlen] at this; exact this)
          go_simp
          obtain ⟨rs1, X3, hd1⟩ := (HC.out.step hT13).cell (b' := { b' with c := nc }) hlen HB.out.2 2 (by omega) (by omega) nc rfl (fun A c => rfl)
          have hjb : j < bs'.length := by omega
          obtain ⟨G3, gc3, u0, u1, u2, u3, -, -⟩ := X3.at_ (by rw [List.length_set]; exact hlen) (List.getElem?_set_self hjb)
          dsimp only at u3
          rw [HCT.out.2] at u3
          have f20 := own_free (by have := X3.ob; rw [List.length_set, hlen] at this; exact this)
          refine Onward.on ⟨X3.ft, u3⟩ (fun hS2 => ?_)
          clear hS
          have hS := hS2
          clear hS2
          try simp only [Act.put, List.getElem_toArray, List.getElem_cons_succ, List.getElem_cons_zero, List.setIfInBounds_toArray, List.set_cons_zero, List.set_cons_succ]
          refine AnyG.one (i := 18) (by kernel_rfl) rfl rfl ?_
          go_simp
          refine Onward.on hS (fun hS2 => ?_)
          clear hS
          have hS := hS2
          clear hS2
          try simp only [Act.put, List.getElem_toArray, List.getElem_cons_succ, List.getElem_cons_zero, List.setIfInBounds_toArray, List.set_cons_zero, List.set_cons_succ]
          refine AnyG.one (i := 19) (by kernel_rfl) rfl rfl ?_
          go_simp
          refine Onward.on hS (fun hS2 => ?_)
          clear hS
          have hS := hS2
          clear hS2
          try simp only [Act.put, List.getElem_toArray, List.getElem_cons_succ, List.getElem_cons_zero, List.setIfInBounds_toArray, List.set_cons_zero, List.set_cons_succ]
          refine AnyG.one (i := 20) (by kernel_rfl) rfl rfl ?_
          go_simp
          refine Onward.last rfl ?_
          try simp only [Act.put, List.getElem_toArray, List.getElem_cons_succ, List.getElem_cons_zero, List.setIfInBounds_toArray, List.set_cons_zero, List.set_cons_succ]
          refine AnyG.done (by kernel_rfl) ?_ _
          go_simp
          clear p0 p1 p2 p3 f17 u0 u1 u2 u3 f20 G3 gc3
          obtain ⟨rs2, X4, hd2⟩ := X3.cell (i := j) (b := { b' with c := nc }) (b' := { b' with c := nc, g := gt + d }) (by rw [List.length_set]; exact hlen) (List.getElem?_set_self hjb) 3 (by omega) (by omega) (gt + d) rfl (fun A c => by rw [HCT.out.2]; rfl)
          rw [List.set_set] at X4
          have E4 : EzB b { b' with c := nc, g := gt + d } := ⟨HE.out.w, nc1, by dsimp only; omega, by have := HG.out; dsimp only; omega, by have := HG.out; dsimp only; omega, HE.out.len, HE.out.gr⟩
          have HS4 := HH.out.set_ (i' := j + 1) HB.out.1 E4 (by omega) (fun h => by omega)
          have hb4 : (bs'.set j { b' with c := nc, g := gt + d })[j]? = some { b' with c := nc, g := gt + d } := List.getElem?_set_self hjb
          obtain ⟨b4, hbe⟩ : ∃ x : Bn, { b' with c := nc, g := gt + d } = x := ⟨_, rfl⟩
          rw [hbe] at X4 E4 HS4 hb4
          obtain ⟨bs4, hbse⟩ : ∃ x : List Bn, bs'.set j b4 = x := ⟨_, rfl⟩
          rw [hbse] at X4 HS4 hb4
          obtain ⟨W4, hW4⟩ : ∃ Z, (y13.setCell ⟨yq, j * 4 + 2, none⟩ (.int .i64 nc)).setCell ⟨yq, j * 4 + 3, none⟩ (.int .i64 (gt + d)) = Z := ⟨_, rfl⟩
          rw [hW4] at X4 ⊢
          have HB0 := HB.out.1
          clear hW4 hbse hbe X3 hd1 hd2 hT13 hT7 hf7 hg7 hf13 hg13 hS HC HPA KQ HF HH HE HCT HB hlw hgl HG hc0 hc1 hlen hjb
          have HBB := Lib.hid HB0
          clear HB0
          go_wp2_with fail
          go_loopw [9, 10] (fun v t10 wr => ∃ (k : Nat) (bs5 : List Bn) (b5 : Bn) (rs5 : List (List Value)), v = .int .i64 k ∧ k ≤ i ∧ bs5[j]? = some b5 ∧ EzB b b5 ∧ EzBs o.bs bs5 (j + 1) ∧ XI g V1 lm' bs5 le mo (.slice XA i xc) (.slice (some ⟨yq, 0, none⟩) bn yc) rs5 q wr) (fun v _ _ => i - (intOf v).toNat)
          case atStart => exact ⟨0, bs4, b4, rs2, rfl, by omega, hb4, E4, HS4, X4⟩
          case round =>
            clear X4 E4 HS4 hb4 b4 bs4 rs2
            obtain ⟨k, bs5, b5, rs5, rfl, hk, hb5, E, hh, C⟩ := hrel
            have hlen : bs5.length = bn := by rw [hh.len]; exact HBN.out
            have hg5 : b5.gr.length = i := by rw [E.len, (HSM.out.bn b (List.mem_of_getElem? HBB.out)).1]; exact HLN.out
            obtain ⟨G, gc, p0, p1, p2, p3, hH, og⟩ := C.at_ hlen hb5
            rw [hg5] at p0 hH og
            obtain ⟨q0, q1, q2, q3, qf, qz⟩ := C.k.four
            by_cases hki : k < i
            · obtain ⟨gq, rfl⟩ := own_some og (by omega)
              obtain ⟨pp, hp⟩ : ∃ p, b5.gr[k]? = some p := ⟨_, List.getElem?_eq_getElem (by omega)⟩
              obtain ⟨pb, hpb⟩ : ∃ p, b.gr[k]? = some p := ⟨_, List.getElem?_eq_getElem (by rw [← E.len]; omega)⟩
              obtain ⟨e1, e2, e3⟩ := E.gr k pb pp hpb hp
              have hpz := (HSM.out.bn b (List.mem_of_getElem? HBB.out)).2.1 pb (List.mem_of_getElem? hpb)
              obtain ⟨pl, ph⟩ := pp
              obtain ⟨pbl, pbh⟩ := pb
              dsimp only at e1 e2 e3 hpz
              have hkw : IntKind.i64.wrap ((k : Int) + 1) = (k : Int) + 1 := IntWalk.i64_in _ (by omega)
              have HF := C.ft.2
              have PP := fun (x : World) (hx : FT g wr x) => own_pair (hx.row HF og (by decide)) hg5 hp
              have HC := Lib.hid C
              have HE := Lib.hid E
              have HP := Lib.hid (And.intro hp (And.intro hpb hb5))
              have HHH := Lib.hid (And.intro hh hH)
              have HPP := Lib.hid PP
              clear C E hp hpb hb5 hh PP hH
              go_wp2_with fail
              clear q0 q1 q2 q3 qf qz p0 p1 p2 p3
              refine AnyG.startC (by kernel_rfl) ?_
              refine AnyG.takeP (i := 0) (v := ?_) rfl (by kernel_rfl) (fun _ _ _ h => h) rfl ?_ ?_
              rotate_left
              · (intro w'; go_simp; try with_reducible rfl)
              try simp only [Act.put, List.getElem_toArray, List.getElem_cons_succ, List.getElem_cons_zero, List.setIfInBounds_toArray, List.set_cons_zero, List.set_cons_succ]
              refine AnyG.takeP (i := 1) (v := ?_) rfl (by kernel_rfl) (fun _ _ _ h => h) rfl ?_ ?_
              rotate_left
              · (intro w'; go_simp; try with_reducible rfl)
              try simp only [Act.put, List.getElem_toArray, List.getElem_cons_succ, List.getElem_cons_zero, List.setIfInBounds_toArray, List.set_cons_zero, List.set_cons_succ]
              refine AnyG.takeP (i := 2) (v := ?_) rfl (by kernel_rfl) (fun _ _ _ h => h) rfl ?_ ?_
              rotate_left
              · (intro w'; go_simp; try with_reducible rfl)
              try simp only [Act.put, List.getElem_toArray, List.getElem_cons_succ, List.getElem_cons_zero, List.setIfInBounds_toArray, List.set_cons_zero, List.set_cons_succ]
              refine AnyG.takeP (i := 3) (v := ?_) rfl (by kernel_rfl) (fun _ _ _ h => h) rfl ?_ ?_
              rotate_left
              · (intro w'; go_simp; try with_reducible rfl)
              try simp only [Act.put, List.getElem_toArray, List.getElem_cons_succ, List.getElem_cons_zero, List.setIfInBounds_toArray, List.set_cons_zero, List.set_cons_succ]
              refine AnyG.takeP (i := 4) (v := ?_) rfl (by kernel_rfl) (fun _ _ _ h => h) rfl ?_ ?_
              rotate_left
              · (intro w'; go_simp; try with_reducible rfl)
              try simp only [Act.put, List.getElem_toArray, List.getElem_cons_succ, List.getElem_cons_zero, List.setIfInBounds_toArray, List.set_cons_zero, List.set_cons_succ]
              refine AnyG.takeP (i := 6) (v := ?_) rfl (by kernel_rfl) (fun _ _ _ h => h) rfl ?_ ?_
              rotate_left
              · (intro w'; go_simp; try with_reducible rfl)
              try simp only [Act.put, List.getElem_toArray, List.getElem_cons_succ, List.getElem_cons_zero, List.setIfInBounds_toArray, List.set_cons_zero, List.set_cons_succ]
              refine AnyG.takeP (i := 7) (v := ?_) rfl (by kernel_rfl) (fun _ _ _ h => h) rfl ?_ ?_
              rotate_left
              · (intro w'; go_simp; try with_reducible rfl)
              try simp only [Act.put, List.getElem_toArray, List.getElem_cons_succ, List.getElem_cons_zero, List.setIfInBounds_toArray, List.set_cons_zero, List.set_cons_succ]
              refine AnyG.takeP (i := 8) (v := ?_) rfl (by kernel_rfl) (fun _ _ _ h => h) rfl ?_ ?_
              rotate_left
              · (intro w'; go_simp; try with_reducible rfl)
              try simp only [Act.put, List.getElem_toArray, List.getElem_cons_succ, List.getElem_cons_zero, List.setIfInBounds_toArray, List.set_cons_zero, List.set_cons_succ]
              refine AnyG.enter (fun w' : World => FT g wr w') (fun i => i != 13) ?_
              have hS : (fun w' : World => FT g wr w') (World.drew _) := (FT.self HF).drew
              refine AnyG.takeC (i := 5) (v := ?_) rfl (by kernel_rfl) (fun _ _ _ h => h) rfl ?_ hS ?_
              rotate_left
              · (intro w' hSw; (try dsimp only at hSw); obtain ⟨g0, g1⟩ := HPP.out _ hSw; go_simp; try with_reducible rfl)
              try simp only [Act.put, List.getElem_toArray, List.getElem_cons_succ, List.getElem_cons_zero, List.setIfInBounds_toArray, List.set_cons_zero, List.set_cons_succ]
              refine AnyG.takeC (i := 9) (v := ?_) rfl (by kernel_rfl) (fun _ _ _ h => h) rfl ?_ hS ?_
              rotate_left
              · (intro w' hSw; (try dsimp only at hSw); obtain ⟨g0, g1⟩ := HPP.out _ hSw; go_simp; try with_reducible rfl)
              try simp only [Act.put, List.getElem_toArray, List.getElem_cons_succ, List.getElem_cons_zero, List.setIfInBounds_toArray, List.set_cons_zero, List.set_cons_succ]
              refine AnyG.one (i := 10) (by kernel_rfl) rfl rfl ?_
              go_simp
              refine (between_any g pl ph _ hS.2 (by omega) (by omega) (by omega) (by omega)).mono ?_
              rintro er y10 ⟨⟨nh, rfl, nh1, nh2⟩, hf10, hg10⟩
              have hT10 := hS.call hg10 hf10
              refine Onward.on hT10 (fun hS2 => ?_)
              clear hS
              have hS := hS2
              clear hS2
              try simp only [Act.put, List.getElem_toArray, List.getElem_cons_succ, List.getElem_cons_zero, List.setIfInBounds_toArray, List.set_cons_zero, List.set_cons_succ]
              refine AnyG.takeC (i := 11) (v := ?_) rfl (by kernel_rfl) (fun _ _ _ h => h) rfl ?_ hS ?_
              rotate_left
              · (intro w' hSw; (try dsimp only at hSw); go_simp; try with_reducible rfl)
              try simp only [Act.put, List.getElem_toArray, List.getElem_cons_succ, List.getElem_cons_zero, List.setIfInBounds_toArray, List.set_cons_zero, List.set_cons_succ]
              refine AnyG.takeC (i := 12) (v := ?_) rfl (by kernel_rfl) (fun _ _ _ h => h) rfl ?_ hS ?_
              rotate_left
              · (intro w' hSw; (try dsimp only at hSw); go_simp; try with_reducible rfl)
              try simp only [Act.put, List.getElem_toArray, List.getElem_cons_succ, List.getElem_cons_zero, List.setIfInBounds_toArray, List.set_cons_zero, List.set_cons_succ]
              refine AnyG.one (i := 13) (by kernel_rfl) rfl rfl ?_
              obtain ⟨g0, g1⟩ := HPP.out _ hT10
              have f13 := own_free (hT10.row HF og (by decide))
              go_simp
              refine Onward.last rfl ?_
              try simp only [Act.put, List.getElem_toArray, List.getElem_cons_succ, List.getElem_cons_zero, List.setIfInBounds_toArray, List.set_cons_zero, List.set_cons_succ]
              refine AnyG.done (by kernel_rfl) ?_ _
              go_simp
              clear g0 g1 f13
              have X5 := (HC.out.step hT10).gram HHH.out.2 HP.out.2.2 HP.out.1 1 (by omega) nh (pl, nh) rfl
              obtain ⟨W5, hW5⟩ : ∃ Z, y10.setCell ⟨gq, k * 2 + 1, none⟩ (.int .i64 nh) = Z := ⟨_, rfl⟩
              rw [hW5] at X5 ⊢
              have hjb : j < bs5.length := by omega
              have hb6 : (bs5.set j { b5 with gr := b5.gr.set k (pl, nh) })[j]? = some { b5 with gr := b5.gr.set k (pl, nh) } := List.getElem?_set_self hjb
              have hp6 : (b5.gr.set k (pl, nh))[k]? = some (pl, nh) := List.getElem?_set_self (by omega)
              have hl6 : (b5.gr.set k (pl, nh)).length = i := by rw [List.length_set]; exact hg5
              obtain ⟨G6, gc6, p0, p1, p2, p3, hH6, og6⟩ := X5.at_ (by rw [List.length_set]; exact hlen) hb6
              have hH5 := HHH.out.2
              obtain ⟨r6, e61, e62⟩ := hH6
              obtain ⟨r5, e51, e52⟩ := hH5
              rw [e51, Option.some.injEq] at e61
              subst e61
              rw [e52, Option.some.injEq] at e62
              simp only [Value.slice.injEq] at e62
              obtain ⟨rfl, -, rfl⟩ := e62
              simp only [hl6] at og6
              obtain ⟨g0, g1⟩ := own_pair og6 hl6 hp6
              dsimp only at g0 g1
              have f6 := own_free og6
              have HF5 := X5.ft.2
              have HX5 := Lib.hid X5
              clear hW5 hT10 hf10 hg10 hS HF HPP X5 p0 p1 p2 p3
              go_wp2_with (first
                | (go_at_call 32; refine (between_any g 0 pl _ HF5 (by omega) (by omega) (by omega) (by omega)).mono ?_; rintro e y6 ⟨⟨nl, rfl, nl1, nl2⟩, hf6, hg6⟩; have hT6 : FT g W5 y6 := ⟨hg6, hf6⟩; have og7 := hT6.row HF5 og6 (by decide); obtain ⟨h0, h1⟩ := own_pair og7 hl6 hp6; dsimp only at h0 h1; have f7 := own_free og7)
                | fail)
              have X6 := (HX5.out.step hT6).gram ⟨_, e51, e52⟩ hb6 hp6 0 (by omega) nl (nl, nh) rfl
              rw [List.set_set] at X6
              dsimp only at X6
              rw [List.set_set] at X6
              have E6 : EzB b { b5 with gr := b5.gr.set k (nl, nh) } := by
                refine ⟨HE.out.w, HE.out.c0, HE.out.c, HE.out.g, HE.out.g5, by rw [← HE.out.len]; simp, fun m p p' h1 h2 => ?_⟩
                by_cases hm : k = m
                · subst hm
                  dsimp only at h2
                  rw [List.getElem?_set_self (by omega), Option.some.injEq] at h2
                  rw [HP.out.2.1, Option.some.injEq] at h1
                  subst h1 h2
                  exact ⟨nl1, by dsimp only; omega, by dsimp only; omega⟩
                · dsimp only at h2
                  rw [List.getElem?_set_ne hm] at h2
                  exact HE.out.gr m p p' h1 h2
              go_roundw
              case rel => exact ⟨k + 1, _, _, rs5, by go_num, by omega, List.getElem?_set_self hjb, E6, HHH.out.1.set_ HBB.out E6 (Nat.le_refl _) (fun h => by omega), by simpa using X6⟩
              case measure => simp [intOf]; omega
            · go_wp2_with fail
              go_roundw
              case rel => exact ⟨j + 1, bs5, rs5, by go_num, by omega, hh, C⟩
              case measure => simp [intOf]; omega
        · obtain rfl : j = bn := by omega
          obtain ⟨EA, xok⟩ := easier_of HSM.out HL'.out hh hle.1 hle.2 hmo.1 hmo.2
          have hlen : bs'.length = j := by rw [hh.len]; exact HBN.out
          have hxO := C.ord hll hlen
          have hO2 := FT.ord C.ft hF hO
          have kO2 := C.ft.bx kO hgO
          have kX2 := C.k
          have hB2 := C.ft.be hB hwg
          have CX := fun (W : World) (h : OrdAt W W.heap.size XA (some ⟨yq, 0, none⟩) ⟨lm', le, mo, bs'⟩) => cheapest_ok XA i xc (some ⟨yq, 0, none⟩) j yc ⟨lm', le, mo, bs'⟩ W (by omega) (by omega) hll hlen h xok
          dsimp only at CX
          have HCX := Lib.hid CX
          have HEA := Lib.hid (fun d r => EA.cheap HOK.out xok (d := d) (r := r))
          obtain ⟨x, hx⟩ : ∃ x : Od, ⟨lm', le, mo, bs'⟩ = x := ⟨_, rfl⟩
          rw [hx] at hxO HCX HEA
          clear CX EA xok hh C hx kO hO hF hB
          go_upto_region 20 with fail
          clear q0 q1 q2 q3 qf qz
          obtain ⟨l0, l1, l2, l3, lf', lz⟩ := kO2.four
          go_upto_region 21 with (first
            | (go_at_call 20; refine (cheapest_ok LA i lc BA j bc o _ (by omega) (by omega) HLN.out HBN.out hO2 HOK.out).mono ?_; rintro e V4 ⟨⟨r1, x1, c1, hc1, rfl, hv1⟩, hq4⟩)
            | fail)
          have kX4 := kX2.call hq4
          have hX4 := hxO.call hq4
          have hB4 := hB2.trans (hq4.mono hB2.size)
          clear l0 l1 l2 l3 lf' lz kO2 kX2 hO2 hxO hB2 hq4
          obtain ⟨l0, l1, l2, l3, lf', lz⟩ := kX4.four
          go_upto_region 22 with (first
            | (go_at_call 20; refine (HCX.out _ hX4).mono ?_; rintro e V5 ⟨⟨r2, x2, c2, hc2, rfl, hv2⟩, hq5⟩)
            | fail)
          have hB5 := hB4.trans (hq5.mono hB4.size)
          clear l0 l1 l2 l3 lf' lz kX4 hX4 hB4 hq5
          cases r1 with
          | none =>
            obtain ⟨rfl, rfl⟩ := hv1
            obtain ⟨ge, hge⟩ : ∃ z : Int, (if r2.isSome = true then (0 : Int) else 13) = z := ⟨_, rfl⟩
            rw [hge]
            clear hge hv2 hc2
            simp only [Option.isSome_none, Bool.false_eq_true, if_false]
            go_wp2_with (first | (go_at_call 19; refine (alive_any _).mono ?_; rintro e V9 ⟨rfl, hq9⟩) | fail)
            go_ret
            exact ⟨rfl, hB5.trans (hq9.mono hB5.size)⟩
          | some d =>
            obtain ⟨d', rfl, hdd⟩ := HEA.out d r2 hc1 hc2
            obtain ⟨rfl, q1, C1, rfl, ow1⟩ := hv1
            obtain ⟨rfl, q2, C2, rfl, ow2⟩ := hv2
            simp only [Option.isSome_some, if_true]
            rw [HBN.out] at hdd
            have hle2 : decide (cst x d' j ≤ cst o d j) = true := decide_eq_true hdd
            go_wp2_with (first | (go_at_call 19; refine (alive_any _).mono ?_; rintro e V9 ⟨rfl, hq9⟩) | fail)
            go_ret
            exact ⟨rfl, hB5.trans (hq9.mono hB5.size)⟩
end Go.Proofs.Ytmemcopfeabcgaa
