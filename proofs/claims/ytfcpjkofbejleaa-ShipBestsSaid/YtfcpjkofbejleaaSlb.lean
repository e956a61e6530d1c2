/- ShipBests: the run. -/
import Derived.Test.YtfcpjkofbejleaaSlm
set_option linter.unusedSimpArgs false
set_option linter.unusedVariables false
namespace Go.Proofs.Ytfcpjkofbejleaa
open Go Go.RowKit
set_option maxRecDepth 100000 in
set_option maxHeartbeats 80000000 in
theorem shipBests_run (v0 : Vg) (p0 : Vp) (A : Option Addr) (n c : Nat) (L : List Int) (w : World) (hF0 : p0.Fit) (hLF0 : LvFit v0) (hV00 : VoyAt w w.heap.size v0 p0) (hn : n ≤ 9000000000000000000) (hl : L.length = n) (hA0 : Sl w w.heap.size 1 A (ints L)) :
    Calls Try.prog 5 #[.agg (vcs v0 p0), .slice A n c] w fun e w' => e = .returned (.bool true) ∧ Below w.heap.size w w' := by
  have HL := Lib.hid hl
  clear hl
  obtain ⟨i3, hi3, hz3, hs3, iy3⟩ := info_parts info3'
  have kX := Bx.new w 26 (vcs v0 p0)
  have BW := (Below.refl w.heap.size w).alloc (Nat.le_refl _) (.cells (vcs v0 p0) 26)
  have hX := hV00.call BW
  have hA := (hA0.below BW).more BW.size
  rw [vcs_def] at kX BW hX hA ⊢
  obtain ⟨W0, hW0⟩ : ∃ V, w.alloc (.cells #[.int .i64 v0.li, .int .i64 v0.un, .int .i64 v0.tr, .slice p0.HA p0.hn p0.hc, .int .i64 v0.le, .slice p0.SA p0.sn p0.sc, .slice p0.LA p0.ln p0.lc] 26) = V := ⟨_, rfl⟩
  rw [hW0] at kX BW hX hA
  have HW0 := Lib.hid hW0
  obtain ⟨qx, hqx⟩ : ∃ q, w.heap.size = q := ⟨_, rfl⟩
  clear hW0 hV00 hA0
  go_enter Try.func5, Try.ntmps5
  go_upto_region 1 with fail
  rw [HW0.out]
  rw [hqx] at kX
  try rw [hqx]
  clear HW0 hqx
  go_cut [27] from 15 to 87 (fun v27 x => ∃ b : Bool, v27 = .bool b ∧ Hid (b = false → v0.Slim) ∧ Below W0.heap.size W0 x)
  case first =>
    obtain ⟨E, hE⟩ : ∃ E, ckV v0 = E := ⟨_, rfl⟩
    have HE := Lib.hid hE
    clear hE
    obtain ⟨x0, x1, x2, x3, x4, x5, x6, xf, xz⟩ := kX.seven
    by_cases h3 : 3 < p0.ln
    · have d : decide ((3 : Int) < (p0.ln : Int)) = true := by simp; omega
      clear h3
      by_cases hz : E = 0
      · have dz : ((E : Int) == 0) = true := by simpa using hz
        have HZ := Lib.hid hz
        clear hz
        go_wp2_with (first
          | (go_at_call 14; refine (wide_any v0 p0 _ hF0 hLF0 hX).mono ?_; rintro e w1 ⟨⟨hb, rfl, hsl⟩, hq1⟩; have kX1 := kX.call hq1; clear x0 x1 x2 x3 x4 x5 x6 xf xz; obtain ⟨x0, x1, x2, x3, x4, x5, x6, xf, xz⟩ := kX1.seven; cases hb)
          | (go_at_call 28; refine (refCheck_any v0 p0 _ hF0 hLF0 (hX.call hq1)).mono ?_; rintro e w2 ⟨rfl, hq2⟩; rw [HE.out])
          | fail)
        all_goals (try go_wp2_with (first | (go_at_call 28; refine (refCheck_any v0 p0 _ hF0 hLF0 (hX.call hq1)).mono ?_; rintro e w2 ⟨rfl, hq2⟩; rw [HE.out]) | fail))
        all_goals go_meet
        all_goals first
          | exact ⟨true, by first | rfl | exact congrArg Value.bool dz, Lib.hid (fun h => by cases h), by first | exact hq1 | exact hq1.trans (hq2.mono hq1.size)⟩
          | exact ⟨false, by first | rfl | exact congrArg Value.bool dz, Lib.hid (fun _ => hsl (by simp)), by first | exact hq1 | exact hq1.trans (hq2.mono hq1.size)⟩
      · have dz : ((E : Int) == 0) = false := by simpa using hz
        have HZ := Lib.hid hz
        clear hz
        go_wp2_with (first
          | (go_at_call 14; refine (wide_any v0 p0 _ hF0 hLF0 hX).mono ?_; rintro e w1 ⟨⟨hb, rfl, hsl⟩, hq1⟩; have kX1 := kX.call hq1; clear x0 x1 x2 x3 x4 x5 x6 xf xz; obtain ⟨x0, x1, x2, x3, x4, x5, x6, xf, xz⟩ := kX1.seven; cases hb)
          | (go_at_call 28; refine (refCheck_any v0 p0 _ hF0 hLF0 (hX.call hq1)).mono ?_; rintro e w2 ⟨rfl, hq2⟩; rw [HE.out])
          | fail)
        all_goals (try go_wp2_with (first | (go_at_call 28; refine (refCheck_any v0 p0 _ hF0 hLF0 (hX.call hq1)).mono ?_; rintro e w2 ⟨rfl, hq2⟩; rw [HE.out]) | fail))
        all_goals go_meet
        all_goals first
          | exact ⟨true, by first | rfl | exact congrArg Value.bool dz, Lib.hid (fun h => by cases h), by first | exact hq1 | exact hq1.trans (hq2.mono hq1.size)⟩
          | exact ⟨false, by first | rfl | exact congrArg Value.bool dz, Lib.hid (fun _ => hsl (by simp)), by first | exact hq1 | exact hq1.trans (hq2.mono hq1.size)⟩
    · have d : decide ((3 : Int) < (p0.ln : Int)) = false := by simp; omega
      clear h3
      go_wp2_with (first
        | (go_at_call 14; refine (wide_any v0 p0 _ hF0 hLF0 hX).mono ?_; rintro e w1 ⟨⟨hb, rfl, hsl⟩, hq1⟩; have kX1 := kX.call hq1; clear x0 x1 x2 x3 x4 x5 x6 xf xz; obtain ⟨x0, x1, x2, x3, x4, x5, x6, xf, xz⟩ := kX1.seven; cases hb)
        | fail)
      all_goals (try go_wp2_with (first | fail | fail))
      all_goals go_meet
      all_goals first
        | exact ⟨true, rfl, Lib.hid (fun h => by cases h), hq1⟩
        | exact ⟨false, rfl, Lib.hid (fun _ => hsl (by simp)), hq1⟩
  case rest =>
    obtain ⟨b, rfl, hbs, hq⟩ := hcut
    replace BW := BW.trans (hq.mono BW.size)
    replace hX := hX.call hq
    replace hA := (hA.below hq).more hq.size
    replace kX := kX.call hq
    clear hq
    obtain ⟨W1, hW1⟩ : ∃ U, U = wc := ⟨_, rfl⟩
    subst hW1
    cases b
    rotate_left
    · go_wp2_with (first | (go_at_call 15; refine (awake_any _).mono ?_; rintro e z3 ⟨rfl, hq3⟩) | fail)
      go_ret
      exact ⟨rfl, BW.trans (hq3.mono BW.size)⟩
    have HSL := Lib.hid (hbs.out rfl)
    clear hbs hF0 hLF0
    go_upto_region 4 with (first
      | (go_at_call 16; refine (feedOf_any A n c L _ hn HL.out hA).mono ?_; rintro e w1 ⟨⟨g, rfl, hg0, hfd⟩, hb1⟩)
      | fail)
    have hgX : qx ≠ g := by have := kX.lt; omega
    replace kX := kX.call hb1
    have HFU := Lib.hid hfd
    obtain ⟨U, hU⟩ : ∃ U, U = w1 := ⟨_, rfl⟩
    subst hU
    go_cut [6] from 31 to 86 (fun v6 x => ∃ (v : Vg) (p : Vp) (bv : Nat), v6 = .slice (some ⟨bv, 0, none⟩) 2 2 ∧ Bx x bv 26 #[.int .i64 v0.li, .int .i64 v0.un, .int .i64 v0.tr, .slice p0.HA p0.hn p0.hc, .int .i64 v0.le, .slice p0.SA p0.sn p0.sc, .slice p0.LA p0.ln p0.lc, .int .i64 v.li, .int .i64 v.un, .int .i64 v.tr, .slice p.HA p.hn p.hc, .int .i64 v.le, .slice p.SA p.sn p.sc, .slice p.LA p.ln p.lc] ∧ v.Slim ∧ VoyAt x x.heap.size v p ∧ Below W1.heap.size W1 x)
    case first =>
      refine AnyG.startC (by as_aux_lemma => kernel_rfl) ?_
      refine AnyG.takeP (i := 1) (v := ?_) rfl (by as_aux_lemma => kernel_rfl) (fun _ _ _ h => h) rfl ?_ ?_
      rotate_left
      · (intro w'; go_simp; try with_reducible rfl)
      try simp only [Act.put, List.getElem_toArray, List.getElem_cons_succ, List.getElem_cons_zero, List.setIfInBounds_toArray, List.set_cons_zero, List.set_cons_succ]
      refine AnyG.takeP (i := 2) (v := ?_) rfl (by as_aux_lemma => kernel_rfl) (fun _ _ _ h => h) rfl ?_ ?_
      rotate_left
      · (intro w'; go_simp; try with_reducible rfl)
      try simp only [Act.put, List.getElem_toArray, List.getElem_cons_succ, List.getElem_cons_zero, List.setIfInBounds_toArray, List.set_cons_zero, List.set_cons_succ]
      refine AnyG.enter (fun w' : World => FT g U w') (fun i => i != 7) ?_
      have hS : (fun w' : World => FT g U w') (World.drew _) := (FT.self hfd).drew
      refine AnyG.takeC (i := 0) (v := ?_) rfl (by as_aux_lemma => kernel_rfl) (fun _ _ _ h => h) rfl ?_ hS ?_
      rotate_left
      · (intro w' hSw; (try dsimp only at hSw); obtain ⟨x0, x1, x2, x3, x4, x5, x6, xf, xz⟩ := (hSw.bx kX hgX).seven; go_simp; try with_reducible rfl)
      try simp only [Act.put, List.getElem_toArray, List.getElem_cons_succ, List.getElem_cons_zero, List.setIfInBounds_toArray, List.set_cons_zero, List.set_cons_succ]
      refine AnyG.one (i := 3) (by as_aux_lemma => kernel_rfl) rfl rfl ?_
      try dsimp only at hS
      obtain ⟨z, hz⟩ : ∃ z, U.drew = z := ⟨_, rfl⟩
      rw [hz] at hS ⊢
      clear hz
      go_simp
      have kb := Bx.new z 3 #[.int .i64 4, .int .i64 30]
      have hlb := hS.size
      have hT3 := hS.alloc (.cells #[.int .i64 4, .int .i64 30] 3)
      obtain ⟨z3, hz3⟩ : ∃ x, z.alloc (.cells #[.int .i64 4, .int .i64 30] 3) = x := ⟨_, rfl⟩
      rw [hz3] at kb hT3 ⊢
      obtain ⟨qb, hqb⟩ : ∃ q, z.heap.size = q := ⟨_, rfl⟩
      rw [hqb] at kb hlb ⊢
      clear hz3 hqb
      refine Onward.on hT3 (fun hS2 => ?_)
      clear hS
      have hS := hS2
      clear hS2
      try simp only [Act.put, List.getElem_toArray, List.getElem_cons_succ, List.getElem_cons_zero, List.setIfInBounds_toArray, List.set_cons_zero, List.set_cons_succ]
      refine AnyG.one (i := 4) (by as_aux_lemma => kernel_rfl) rfl rfl ?_
      try dsimp only at hS
      go_simp
      refine (either_any g qb 2 #[.int .i64 4, .int .i64 30] (fun z => z = 4 ∨ z = 30) _ hS.2 kb (by have := HFU.out.lt; omega) (by omega) (by omega) (bx2 _ (by omega) (by omega))).mono ?_
      rintro e4 z4 ⟨⟨T, rfl, hT⟩, hf4, hg4⟩
      refine Onward.on (hS.call hg4 hf4) (fun hS2 => ?_)
      clear hS
      have hS := hS2
      clear hS2
      try simp only [Act.put, List.getElem_toArray, List.getElem_cons_succ, List.getElem_cons_zero, List.setIfInBounds_toArray, List.set_cons_zero, List.set_cons_succ]
      refine AnyG.one (i := 5) (by as_aux_lemma => kernel_rfl) rfl rfl ?_
      try dsimp only at hS
      go_simp
      refine (voyageOf_any g 2 2 4 T _ hS.2 (by omega) (by omega) (by omega) (by omega) (by omega) (by omega) (by omega) (by omega)).mono ?_
      rintro e5 z5 ⟨⟨v, p, hsm, hFit, rfl, hV0⟩, hU5⟩
      rw [vcs_def]
      refine Onward.on ⟨grownF_trans hS.1 hU5.1, hU5.2⟩ (fun hS2 => ?_)
      clear hS
      have hS := hS2
      clear hS2
      try simp only [Act.put, List.getElem_toArray, List.getElem_cons_succ, List.getElem_cons_zero, List.setIfInBounds_toArray, List.set_cons_zero, List.set_cons_succ]
      refine AnyG.one (i := 6) (by as_aux_lemma => kernel_rfl) rfl rfl ?_
      try dsimp only at hS
      go_simp
      have kB := Bx.new z5 26 #[.int .i64 v0.li, .int .i64 v0.un, .int .i64 v0.tr, .slice p0.HA p0.hn p0.hc, .int .i64 v0.le, .slice p0.SA p0.sn p0.sc, .slice p0.LA p0.ln p0.lc, .int .i64 v.li, .int .i64 v.un, .int .i64 v.tr, .slice p.HA p.hn p.hc, .int .i64 v.le, .slice p.SA p.sn p.sc, .slice p.LA p.ln p.lc]
      have hT6 := hS.alloc (.cells #[.int .i64 v0.li, .int .i64 v0.un, .int .i64 v0.tr, .slice p0.HA p0.hn p0.hc, .int .i64 v0.le, .slice p0.SA p0.sn p0.sc, .slice p0.LA p0.ln p0.lc, .int .i64 v.li, .int .i64 v.un, .int .i64 v.tr, .slice p.HA p.hn p.hc, .int .i64 v.le, .slice p.SA p.sn p.sc, .slice p.LA p.ln p.lc] 26)
      have hV6 := hV0.call (bel1 z5 (.cells #[.int .i64 v0.li, .int .i64 v0.un, .int .i64 v0.tr, .slice p0.HA p0.hn p0.hc, .int .i64 v0.le, .slice p0.SA p0.sn p0.sc, .slice p0.LA p0.ln p0.lc, .int .i64 v.li, .int .i64 v.un, .int .i64 v.tr, .slice p.HA p.hn p.hc, .int .i64 v.le, .slice p.SA p.sn p.sc, .slice p.LA p.ln p.lc] 26))
      obtain ⟨z6, hz6⟩ : ∃ x, z5.alloc (.cells #[.int .i64 v0.li, .int .i64 v0.un, .int .i64 v0.tr, .slice p0.HA p0.hn p0.hc, .int .i64 v0.le, .slice p0.SA p0.sn p0.sc, .slice p0.LA p0.ln p0.lc, .int .i64 v.li, .int .i64 v.un, .int .i64 v.tr, .slice p.HA p.hn p.hc, .int .i64 v.le, .slice p.SA p.sn p.sc, .slice p.LA p.ln p.lc] 26) = x := ⟨_, rfl⟩
      rw [hz6] at kB hT6 hV6 ⊢
      obtain ⟨bv, hbv⟩ : ∃ q, z5.heap.size = q := ⟨_, rfl⟩
      rw [hbv] at kB ⊢
      clear hz6 hbv
      refine Onward.on hT6 (fun hS2 => ?_)
      clear hS
      have hS := hS2
      clear hS2
      try simp only [Act.put, List.getElem_toArray, List.getElem_cons_succ, List.getElem_cons_zero, List.setIfInBounds_toArray, List.set_cons_zero, List.set_cons_succ]
      refine AnyG.one (i := 7) (by as_aux_lemma => kernel_rfl) rfl rfl ?_
      go_simp
      refine Onward.last rfl ?_
      try simp only [Act.put, List.getElem_toArray, List.getElem_cons_succ, List.getElem_cons_zero, List.setIfInBounds_toArray, List.set_cons_zero, List.set_cons_succ]
      refine AnyG.done (by as_aux_lemma => kernel_rfl) ?_ _
      go_simp
      go_wp2_with fail
      go_meet
      have hok := hsm.ok (by omega) (by omega) (by omega) (by omega)
      have hslv : v.Slim := ⟨by have := hok.h3; omega, by have := hok.s4; omega, by have := hok.l6; omega, fun s hs => by have := (hok.ss s hs).l6; omega⟩
      exact ⟨v, p, bv, rfl, kB, hslv, hV6, hT6.be hb1 hg0⟩
    case rest =>
      obtain ⟨v, p, bv, rfl, kB, hslv, hV, hq⟩ := hcut
      replace BW := BW.trans (hq.mono BW.size)
      have hPR := ones2_of kB (hX.call hq) hV HSL.out hslv
      obtain ⟨V, hV3⟩ : ∃ U, U = wc := ⟨_, rfl⟩
      subst hV3
      obtain ⟨ad, had⟩ : ∃ a : Addr, ⟨bv, 0, none⟩ = a := ⟨_, rfl⟩
      rw [had] at hPR ⊢
      have HPR := Lib.hid hPR
      clear kB hq hPR hX hV had kX HSL HL hb1 hfd hg0 hA HFU hslv hgX
      go_wp2_with fail
      go_loopw [7, 8, 9, 10, 11, 12, 13, 14] (fun i _ _ _ _ _ _ _ wr => ∃ k : Nat, i = .int .i64 k ∧ k ≤ 2 ∧ Below V.heap.size V wr) (fun i _ _ _ _ _ _ _ _ => 2 - (intOf i).toNat)
      case atStart => exact ⟨0, rfl, by omega, Below.refl _ _⟩
      case round =>
        obtain ⟨k, rfl, hk, hBW⟩ := hrel
        by_cases hk4 : k < 2
        · obtain ⟨v, p, hP0, hO0⟩ := HPR.out k hk4
          have hOU := hP0.call hBW
          have HO := Lib.hid hO0
          have hln20 : p.ln ≤ 20 := by rw [← hO0.ll]; exact hO0.slim.l20
          clear hP0 hO0
          have hk4i : (k : Int) < 2 := by omega
          have hkw : IntKind.i64.wrap ((k : Int) + 1) = (k : Int) + 1 := IntWalk.i64_in _ (by omega)
          have c0 := hOU.c0; have c1 := hOU.c1; have c2 := hOU.c2; have c3 := hOU.c3; have c4 := hOU.c4; have c5 := hOU.c5; have c6 := hOU.c6
          go_upto_region 9 with (first
            | (go_at_call 22; refine (copyVoyage_gen v p _ HO.out.slim hOU.hV).mono ?_; rintro e4 z4 ⟨HA, hc, SA, sc, LA, lc, rs, rfl, oh, os, so, -, ol, hq4⟩)
            | fail)
          clear c0 c1 c2 c3 c4 c5 c6
          have hVo := (voy_own HO.out.hl HO.out.sl' HO.out.ll oh os so ol).call (bel1 z4 (.cells #[.int .i64 v.li, .int .i64 v.un, .int .i64 v.tr, .slice HA p.hn hc, .int .i64 v.le, .slice SA p.sn sc, .slice LA p.ln lc] 26))
          have kq := Bx.new z4 26 #[.int .i64 v.li, .int .i64 v.un, .int .i64 v.tr, .slice HA p.hn hc, .int .i64 v.le, .slice SA p.sn sc, .slice LA p.ln lc]
          have hB1 := hq4.alloc hq4.size (.cells #[.int .i64 v.li, .int .i64 v.un, .int .i64 v.tr, .slice HA p.hn hc, .int .i64 v.le, .slice SA p.sn sc, .slice LA p.ln lc] 26)
          replace hOU := hOU.call hB1
          replace hBW := hBW.trans (hB1.mono hBW.size)
          obtain ⟨U, hU⟩ : ∃ x, z4.alloc (.cells #[.int .i64 v.li, .int .i64 v.un, .int .i64 v.tr, .slice HA p.hn hc, .int .i64 v.le, .slice SA p.sn sc, .slice LA p.ln lc] 26) = x := ⟨_, rfl⟩
          rw [hU] at hVo kq hOU hBW ⊢
          obtain ⟨q, hq⟩ : ∃ q, z4.heap.size = q := ⟨_, rfl⟩
          rw [hq] at kq ⊢
          clear hU hq hB1 oh os so ol hq4
          obtain ⟨bb, hbb⟩ : ∃ x, bR v = x := ⟨_, rfl⟩
          obtain ⟨E, hE⟩ : ∃ x, ckV v = x := ⟨_, rfl⟩
          obtain ⟨ll, hll⟩ : ∃ x, lR v = x := ⟨_, rfl⟩
          have HBB := Lib.hid hbb
          have HE := Lib.hid hE
          have HLL := Lib.hid hll
          clear hbb hE hll
          obtain ⟨x0, x1, x2, x3, x4, x5, x6, xf, xz⟩ := kq.seven
          go_upto_region 10 with (first
            | (go_at_call 36; refine (bestP_any v ⟨HA, p.hn, hc, SA, p.sn, sc, LA, p.ln, lc⟩ _ HO.out.fitq HO.out.lf hVo).mono ?_; rintro e z1 ⟨⟨XA, m1, d1, rfl, o1, l1⟩, hq1⟩; rw [HBB.out, HE.out]; rw [HLL.out] at o1 l1)
            | fail)
          clear x0 x1 x2 x3 x4 x5 x6 xf xz
          replace kq := kq.call hq1
          replace hVo := hVo.call hq1
          replace hOU := hOU.call hq1
          replace hBW := hBW.trans (hq1.mono hBW.size)
          clear hq1
          have c0 := hOU.c0; have c1 := hOU.c1; have c2 := hOU.c2; have c3 := hOU.c3; have c4 := hOU.c4; have c5 := hOU.c5; have c6 := hOU.c6
          go_upto_region 11 with (first
            | (go_at_call 37; refine (bestR_any v p _ HO.out.fit HO.out.lf hOU.hV).mono ?_; rintro e z2 ⟨⟨XB, m2, d2, rfl, o2, l2⟩, hq2⟩; rw [HBB.out, HE.out]; rw [HLL.out] at o2 l2)
            | fail)
          clear c0 c1 c2 c3 c4 c5 c6
          replace kq := kq.call hq2
          replace hVo := hVo.call hq2
          replace hOU := hOU.call hq2
          replace hBW := hBW.trans (hq2.mono hBW.size)
          replace o1 := (o1.below hq2).more hq2.size
          clear hq2
          obtain ⟨U, hU⟩ : ∃ U, U = z2 := ⟨_, rfl⟩
          subst hU
          as_aux_lemma =>
            refine AnyG.startC (by as_aux_lemma => kernel_rfl) ?_
            refine AnyG.takeP (i := 0) (v := ?_) rfl (by as_aux_lemma => kernel_rfl) (fun _ _ _ h => h) rfl ?_ ?_
            rotate_left
            · (intro w'; go_simp; try with_reducible rfl)
            try simp only [Act.put, List.getElem_toArray, List.getElem_cons_succ, List.getElem_cons_zero, List.setIfInBounds_toArray, List.set_cons_zero, List.set_cons_succ]
            refine AnyG.takeP (i := 1) (v := ?_) rfl (by as_aux_lemma => kernel_rfl) (fun _ _ _ h => h) rfl ?_ ?_
            rotate_left
            · (intro w'; go_simp; try with_reducible rfl)
            try simp only [Act.put, List.getElem_toArray, List.getElem_cons_succ, List.getElem_cons_zero, List.setIfInBounds_toArray, List.set_cons_zero, List.set_cons_succ]
            refine AnyG.takeP (i := 2) (v := ?_) rfl (by as_aux_lemma => kernel_rfl) (fun _ _ _ h => h) rfl ?_ ?_
            rotate_left
            · (intro w'; go_simp; try with_reducible rfl)
            try simp only [Act.put, List.getElem_toArray, List.getElem_cons_succ, List.getElem_cons_zero, List.setIfInBounds_toArray, List.set_cons_zero, List.set_cons_succ]
            refine AnyG.takeP (i := 3) (v := ?_) rfl (by as_aux_lemma => kernel_rfl) (fun _ _ _ h => h) rfl ?_ ?_
            rotate_left
            · (intro w'; go_simp; try with_reducible rfl)
            try simp only [Act.put, List.getElem_toArray, List.getElem_cons_succ, List.getElem_cons_zero, List.setIfInBounds_toArray, List.set_cons_zero, List.set_cons_succ]
            refine AnyG.enter (fun w' : World => Below U.heap.size U w') (fun i => true) ?_
            have hS : (fun w' : World => Below U.heap.size U w') (World.drew _) := (Below.refl _ _).drew
            refine AnyG.takeGC (i := 4) (v := ?_) rfl (by as_aux_lemma => kernel_rfl) (fun _ _ _ h => h) (by first | (simp [Region.wanted, yielded]; done) | simp [Region.wanted, yielded, undef]) ?_ hS ?_
            rotate_left
            · (intro w' hSw; (try dsimp only at hSw); go_simp; try with_reducible rfl)
            try simp only [Act.put, List.getElem_toArray, List.getElem_cons_succ, List.getElem_cons_zero, List.setIfInBounds_toArray, List.set_cons_zero, List.set_cons_succ]
            refine AnyG.takeGC (i := 5) (v := ?_) rfl (by as_aux_lemma => kernel_rfl) (fun _ _ _ h => h) (by first | (simp [Region.wanted, yielded]; done) | simp [Region.wanted, yielded, undef]) ?_ hS ?_
            rotate_left
            · (intro w' hSw; (try dsimp only at hSw); go_simp; try with_reducible rfl)
            try simp only [Act.put, List.getElem_toArray, List.getElem_cons_succ, List.getElem_cons_zero, List.setIfInBounds_toArray, List.set_cons_zero, List.set_cons_succ]
            refine AnyG.takeGC (i := 6) (v := ?_) rfl (by as_aux_lemma => kernel_rfl) (fun _ _ _ h => h) (by first | (simp [Region.wanted, yielded]; done) | simp [Region.wanted, yielded, undef]) ?_ hS ?_
            rotate_left
            · (intro w' hSw; (try dsimp only at hSw); go_simp; try with_reducible rfl)
            try simp only [Act.put, List.getElem_toArray, List.getElem_cons_succ, List.getElem_cons_zero, List.setIfInBounds_toArray, List.set_cons_zero, List.set_cons_succ]
            refine AnyG.takeC (i := 7) (v := ?_) rfl (by as_aux_lemma => kernel_rfl) (fun _ _ _ h => h) rfl ?_ hS ?_
            rotate_left
            · (intro w' hSw; (try dsimp only at hSw); go_simp; try with_reducible rfl)
            try simp only [Act.put, List.getElem_toArray, List.getElem_cons_succ, List.getElem_cons_zero, List.setIfInBounds_toArray, List.set_cons_zero, List.set_cons_succ]
            refine AnyG.takeC (i := 8) (v := ?_) rfl (by as_aux_lemma => kernel_rfl) (fun _ _ _ h => h) rfl ?_ hS ?_
            rotate_left
            · (intro w' hSw; (try dsimp only at hSw); go_simp; try with_reducible rfl)
            try simp only [Act.put, List.getElem_toArray, List.getElem_cons_succ, List.getElem_cons_zero, List.setIfInBounds_toArray, List.set_cons_zero, List.set_cons_succ]
            refine AnyG.takeGC (i := 9) (v := ?_) rfl (by as_aux_lemma => kernel_rfl) (fun _ _ _ h => h) (by first | (simp [Region.wanted, yielded]; done) | simp [Region.wanted, yielded, undef]) ?_ hS ?_
            rotate_left
            · (intro w' hSw; (try dsimp only at hSw); go_simp; try with_reducible rfl)
            try simp only [Act.put, List.getElem_toArray, List.getElem_cons_succ, List.getElem_cons_zero, List.setIfInBounds_toArray, List.set_cons_zero, List.set_cons_succ]
            refine AnyG.takeGC (i := 10) (v := ?_) rfl (by as_aux_lemma => kernel_rfl) (fun _ _ _ h => h) (by first | (simp [Region.wanted, yielded]; done) | simp [Region.wanted, yielded, undef]) ?_ hS ?_
            rotate_left
            · (intro w' hSw; (try dsimp only at hSw); go_simp; try with_reducible rfl)
            try simp only [Act.put, List.getElem_toArray, List.getElem_cons_succ, List.getElem_cons_zero, List.setIfInBounds_toArray, List.set_cons_zero, List.set_cons_succ]
            refine AnyG.oneC (i := 11) (by as_aux_lemma => kernel_rfl) rfl (by first | (simp [Region.wanted, yielded]; done) | simp [Region.wanted, yielded, undef]) ?_
            go_simp
            refine (equalInts_any XA m1 d1 XB m2 d2 ll ll _ (by have := l1.out.2; have := hln20; omega) (by have := l2.out.2; have := hln20; omega) l1.out.1 l2.out.1 ((o1.below hS).more hS.size) ((o2.below hS).more hS.size)).mono ?_
            rintro e11 y11 ⟨rfl, hb11⟩
            rw [show decide (ll = ll) = true by simp]
            refine Onward.on (hS.trans (hb11.mono hS.size)) (fun hS2 => ?_)
            clear hS
            have hS := hS2
            clear hS2
            try simp only [Act.put, List.getElem_toArray, List.getElem_cons_succ, List.getElem_cons_zero, List.setIfInBounds_toArray, List.set_cons_zero, List.set_cons_succ]
            refine AnyG.takeGC (i := 12) (v := ?_) rfl (by as_aux_lemma => kernel_rfl) (fun _ _ _ h => h) (by first | (simp [Region.wanted, yielded]; done) | simp [Region.wanted, yielded, undef]) ?_ hS ?_
            rotate_left
            · (intro w' hSw; (try dsimp only at hSw); go_simp; try with_reducible rfl)
            try simp only [Act.put, List.getElem_toArray, List.getElem_cons_succ, List.getElem_cons_zero, List.setIfInBounds_toArray, List.set_cons_zero, List.set_cons_succ]
            refine AnyG.takeC (i := 13) (v := ?_) rfl (by as_aux_lemma => kernel_rfl) (fun _ _ _ h => h) rfl ?_ hS ?_
            rotate_left
            · (intro w' hSw; (try dsimp only at hSw); go_simp; try with_reducible rfl)
            try simp only [Act.put, List.getElem_toArray, List.getElem_cons_succ, List.getElem_cons_zero, List.setIfInBounds_toArray, List.set_cons_zero, List.set_cons_succ]
            refine AnyG.takeC (i := 14) (v := ?_) rfl (by as_aux_lemma => kernel_rfl) (fun _ _ _ h => h) rfl ?_ hS ?_
            rotate_left
            · (intro w' hSw; (try dsimp only at hSw); go_simp; try with_reducible rfl)
            try simp only [Act.put, List.getElem_toArray, List.getElem_cons_succ, List.getElem_cons_zero, List.setIfInBounds_toArray, List.set_cons_zero, List.set_cons_succ]
            refine AnyG.takeGC (i := 15) (v := ?_) rfl (by as_aux_lemma => kernel_rfl) (fun _ _ _ h => h) (by first | (simp [Region.wanted, yielded]; done) | simp [Region.wanted, yielded, undef]) ?_ hS ?_
            rotate_left
            · (intro w' hSw; (try dsimp only at hSw); obtain ⟨x0, x1, x2, x3, x4, x5, x6, xf, xz⟩ := (kq.call hSw).seven; go_simp; try with_reducible rfl)
            try simp only [Act.put, List.getElem_toArray, List.getElem_cons_succ, List.getElem_cons_zero, List.setIfInBounds_toArray, List.set_cons_zero, List.set_cons_succ]
            refine AnyG.takeGC (i := 16) (v := ?_) rfl (by as_aux_lemma => kernel_rfl) (fun _ _ _ h => h) (by first | (simp [Region.wanted, yielded]; done) | simp [Region.wanted, yielded, undef]) ?_ hS ?_
            rotate_left
            · (intro w' hSw; (try dsimp only at hSw); go_simp; try with_reducible rfl)
            try simp only [Act.put, List.getElem_toArray, List.getElem_cons_succ, List.getElem_cons_zero, List.setIfInBounds_toArray, List.set_cons_zero, List.set_cons_succ]
            refine AnyG.takeGC (i := 17) (v := ?_) rfl (by as_aux_lemma => kernel_rfl) (fun _ _ _ h => h) (by first | (simp [Region.wanted, yielded]; done) | simp [Region.wanted, yielded, undef]) ?_ hS ?_
            rotate_left
            · (intro w' hSw; (try dsimp only at hSw); go_simp; try with_reducible rfl)
            try simp only [Act.put, List.getElem_toArray, List.getElem_cons_succ, List.getElem_cons_zero, List.setIfInBounds_toArray, List.set_cons_zero, List.set_cons_succ]
            refine AnyG.takeGC (i := 18) (v := ?_) rfl (by as_aux_lemma => kernel_rfl) (fun _ _ _ h => h) (by first | (simp [Region.wanted, yielded]; done) | simp [Region.wanted, yielded, undef]) ?_ hS ?_
            rotate_left
            · (intro w' hSw; (try dsimp only at hSw); go_simp; try with_reducible rfl)
            try simp only [Act.put, List.getElem_toArray, List.getElem_cons_succ, List.getElem_cons_zero, List.setIfInBounds_toArray, List.set_cons_zero, List.set_cons_succ]
            refine AnyG.takeGC (i := 19) (v := ?_) rfl (by as_aux_lemma => kernel_rfl) (fun _ _ _ h => h) (by first | (simp [Region.wanted, yielded]; done) | simp [Region.wanted, yielded, undef]) ?_ hS ?_
            rotate_left
            · (intro w' hSw; (try dsimp only at hSw); have hp := hOU.call hSw; have c0 := hp.c0; have c1 := hp.c1; have c2 := hp.c2; have c3 := hp.c3; have c4 := hp.c4; have c5 := hp.c5; have c6 := hp.c6; go_simp; try with_reducible rfl)
            try simp only [Act.put, List.getElem_toArray, List.getElem_cons_succ, List.getElem_cons_zero, List.setIfInBounds_toArray, List.set_cons_zero, List.set_cons_succ]
            refine AnyG.oneC (i := 20) (by as_aux_lemma => kernel_rfl) rfl (by first | (simp [Region.wanted, yielded]; done) | simp [Region.wanted, yielded, undef]) ?_
            go_simp
            refine (equalVoyages_same v HA p.hn hc SA p.sn sc LA p.ln lc p.HA p.hc p.SA p.sc p.LA p.lc _ HO.out.slim (hVo.call hS) (hOU.call hS).hV).mono ?_
            rintro e5 y5 ⟨rfl, hb5⟩
            refine Onward.on (hS.trans (hb5.mono hS.size)) (fun hS2 => ?_)
            clear hS
            have hS := hS2
            clear hS2
            try simp only [Act.put, List.getElem_toArray, List.getElem_cons_succ, List.getElem_cons_zero, List.setIfInBounds_toArray, List.set_cons_zero, List.set_cons_succ]
            refine AnyG.takeGC (i := 21) (v := ?_) rfl (by as_aux_lemma => kernel_rfl) (fun _ _ _ h => h) (by first | (simp [Region.wanted, yielded]; done) | simp [Region.wanted, yielded, undef]) ?_ hS ?_
            rotate_left
            · (intro w' hSw; (try dsimp only at hSw); go_simp; try with_reducible rfl)
            try simp only [Act.put, List.getElem_toArray, List.getElem_cons_succ, List.getElem_cons_zero, List.setIfInBounds_toArray, List.set_cons_zero, List.set_cons_succ]
            refine AnyG.takeC (i := 22) (v := ?_) rfl (by as_aux_lemma => kernel_rfl) (fun _ _ _ h => h) rfl ?_ hS ?_
            rotate_left
            · (intro w' hSw; (try dsimp only at hSw); go_simp; try with_reducible rfl)
            try simp only [Act.put, List.getElem_toArray, List.getElem_cons_succ, List.getElem_cons_zero, List.setIfInBounds_toArray, List.set_cons_zero, List.set_cons_succ]
            refine AnyG.done (by as_aux_lemma => kernel_rfl) ?_ _
            go_simp
            go_wp2_with fail
            exact ⟨⟨k + 1, by go_num, by omega, hBW.trans (hS.mono hBW.size)⟩, by simp [intOf]; omega⟩
        · obtain rfl : k = 2 := by omega
          go_wp2_with (first | (go_at_call 15; refine (awake_any _).mono ?_; rintro e z3 ⟨rfl, hq3⟩) | fail)
          go_ret
          exact ⟨rfl, BW.trans ((hBW.trans (hq3.mono hBW.size)).mono BW.size)⟩

end Go.Proofs.Ytfcpjkofbejleaa
