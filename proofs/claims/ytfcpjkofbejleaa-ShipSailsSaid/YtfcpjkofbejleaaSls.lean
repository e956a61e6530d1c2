/- ShipSails: the run. -/
import Derived.Test.YtfcpjkofbejleaaSlmM
set_option linter.unusedSimpArgs false
set_option linter.unusedVariables false
namespace Go.Proofs.Ytfcpjkofbejleaa
open Go Go.RowKit
set_option maxRecDepth 100000 in
set_option maxHeartbeats 800000000 in
theorem shipSails_run (v0 : Vg) (p0 : Vp) (A0 : Option Addr) (n0 d0 : Nat) (s0 : List Int) (A : Option Addr) (n c : Nat) (L : List Int) (w : World) (hF0 : p0.Fit) (hLF0 : LvFit v0) (hV00 : VoyAt w w.heap.size v0 p0) (hn0 : n0 ≤ 9223372036854775807) (hl0 : s0.length = n0) (hS00 : Sl w w.heap.size 1 A0 (inr s0)) (hn : n ≤ 9000000000000000000) (hl : L.length = n) (hA0 : Sl w w.heap.size 1 A (ints L)) :
    Calls Try.prog 4 #[.agg (vcs v0 p0), .slice A0 n0 d0, .slice A n c] w fun e w' => e = .returned (.bool true) ∧ Below w.heap.size w w' := by
  have HL := Lib.hid hl
  have HL0 := Lib.hid hl0
  clear hl hl0
  obtain ⟨i3, hi3, hz3, hs3, iy3⟩ := info_parts info3'
  have kX := Bx.new w 26 (vcs v0 p0)
  have BW := (Below.refl w.heap.size w).alloc (Nat.le_refl _) (.cells (vcs v0 p0) 26)
  have hX := hV00.call BW
  have hS0 := (hS00.below BW).more BW.size
  have hA := (hA0.below BW).more BW.size
  rw [vcs_def] at kX BW hX hS0 hA ⊢
  obtain ⟨W0, hW0⟩ : ∃ V, w.alloc (.cells #[.int .i64 v0.li, .int .i64 v0.un, .int .i64 v0.tr, .slice p0.HA p0.hn p0.hc, .int .i64 v0.le, .slice p0.SA p0.sn p0.sc, .slice p0.LA p0.ln p0.lc] 26) = V := ⟨_, rfl⟩
  rw [hW0] at kX BW hX hS0 hA
  have HW0 := Lib.hid hW0
  obtain ⟨qx, hqx⟩ : ∃ q, w.heap.size = q := ⟨_, rfl⟩
  clear hW0 hV00 hS00 hA0
  go_enter Try.func4, Try.ntmps4
  go_upto_region 1 with fail
  rw [HW0.out]
  rw [hqx] at kX
  try rw [hqx]
  clear HW0 hqx
  go_cut [26] from 20 to 111 (fun v38 x => ∃ b : Bool, v38 = .bool b ∧ Hid (b = false → v0.Slim ∧ n0 ≤ 20) ∧ Below W0.heap.size W0 x)
  case first =>
    obtain ⟨x0, x1, x2, x3, x4, x5, x6, xf, xz⟩ := kX.seven
    go_wp2_with (first
      | (go_at_call 14; refine (wide_any v0 p0 _ hF0 hLF0 hX).mono ?_; rintro e w1 ⟨⟨hb, rfl, hsl⟩, hq1⟩; cases hb)
      | fail)
    rotate_left
    · go_wp2_with fail
      go_meet
      exact ⟨true, rfl, Lib.hid (fun h => by cases h), hq1⟩
    have HSL := Lib.hid (hsl (by simp))
    clear hsl
    by_cases h20 : 20 < n0
    · have d : decide ((20 : Int) < (n0 : Int)) = true := by simp; omega
      clear h20
      go_wp2_with fail
      go_meet
      exact ⟨true, by first | rfl | exact congrArg Value.bool d, Lib.hid (fun h => by cases h), hq1⟩
    · have d : decide ((20 : Int) < (n0 : Int)) = false := by simp; omega
      have H20 := Lib.hid (show n0 ≤ 20 by omega)
      clear h20
      go_wp2_with fail
      go_meet
      exact ⟨false, by first | rfl | exact congrArg Value.bool d, Lib.hid (fun _ => ⟨HSL.out, H20.out⟩), hq1⟩
  case rest =>
    obtain ⟨b, rfl, hbs, hq⟩ := hcut
    replace BW := BW.trans (hq.mono BW.size)
    replace hX := hX.call hq
    replace hS0 := (hS0.below hq).more hq.size
    replace hA := (hA.below hq).more hq.size
    replace kX := kX.call hq
    clear hq
    obtain ⟨W1, hW1⟩ : ∃ U, U = wc := ⟨_, rfl⟩
    subst hW1
    cases b
    rotate_left
    · go_wp2_with (first | (go_at_call 15; refine (awake_any _).mono ?_; rintro e z3 ⟨rfl, hq3⟩) | fail)
      go_ret
      exact ⟨rfl, BW.trans (hq3.mono BW.size)⟩
    have HSL := Lib.hid (hbs.out rfl)
    clear hbs hF0 hLF0
    go_upto_region 5 with (first
      | (go_at_call 16; refine (feedOf_any A n c L _ hn HL.out hA).mono ?_; rintro e w1 ⟨⟨g, rfl, hg0, hfd⟩, hb1⟩)
      | (go_at_call 18; have U1 := (FT.self hfd).alloc (.cells #[.int .i64 4, .int .i64 30] 3); refine (either_any g w1.heap.size 2 #[.int .i64 4, .int .i64 30] (fun z => z = 4 ∨ z = 30) _ U1.2 (Bx.new w1 3 _) (by have := hfd.lt; omega) (by omega) (by omega) (bx2 _ (by omega) (by omega))).mono ?_; rintro e w2 ⟨⟨T, rfl, hT⟩, hf2, hg2⟩; have U2 := U1.call hg2 hf2; clear hf2 hg2 U1)
      | (go_at_call 17; refine (voyageOf_any g 3 4 4 T _ U2.2 (by omega) (by omega) (by omega) (by omega) (by omega) (by omega) (by omega) (by omega)).mono ?_; rintro e w3 ⟨⟨v, p, hsm, hFit, rfl, hV0⟩, hU3⟩; have U3 : FT g w1 w3 := ⟨grownF_trans U2.1 hU3.1, hU3.2⟩; rw [vcs_def]; clear hU3 U2)
      | fail)
    have hgx : qx ≠ g := by have := kX.lt; omega
    replace kX := (U3.bx (kX.call hb1) hgx)
    have hck := hsm.ck (by omega) (by omega) (by omega) (by omega)
    have hok := hsm.ok (by omega) (by omega) (by omega) (by omega)
    have hslv : v.Slim := ⟨by have := hok.h3; omega, by have := hok.s4; omega, by have := hok.l6; omega, fun s hs => by have := (hok.ss s hs).l6; omega⟩
    have HCK := Lib.hid hck
    have HSV := Lib.hid hslv
    have hln6 : p.ln ≤ 6 := by rw [← hV0.ll]; exact hok.l6
    have B1 := (Below.refl w3.heap.size w3).alloc (Nat.le_refl _) (.cells #[.int .i64 v.li, .int .i64 v.un, .int .i64 v.tr, .slice p.HA p.hn p.hc, .int .i64 v.le, .slice p.SA p.sn p.sc, .slice p.LA p.ln p.lc] 26)
    replace kX := kX.alloc (.cells #[.int .i64 v.li, .int .i64 v.un, .int .i64 v.tr, .slice p.HA p.hn p.hc, .int .i64 v.le, .slice p.SA p.sn p.sc, .slice p.LA p.ln p.lc] 26)
    have kO := Bx.new w3 26 #[.int .i64 v.li, .int .i64 v.un, .int .i64 v.tr, .slice p.HA p.hn p.hc, .int .i64 v.le, .slice p.SA p.sn p.sc, .slice p.LA p.ln p.lc]
    have hO := hV0.call B1
    have U4 := U3.alloc (.cells #[.int .i64 v.li, .int .i64 v.un, .int .i64 v.tr, .slice p.HA p.hn p.hc, .int .i64 v.le, .slice p.SA p.sn p.sc, .slice p.LA p.ln p.lc] 26)
    have hgl := U3.2.lt
    obtain ⟨V1, hV1⟩ : ∃ V, w3.alloc (.cells #[.int .i64 v.li, .int .i64 v.un, .int .i64 v.tr, .slice p.HA p.hn p.hc, .int .i64 v.le, .slice p.SA p.sn p.sc, .slice p.LA p.ln p.lc] 26) = V := ⟨_, rfl⟩
    rw [hV1] at kO hO U4 kX ⊢
    obtain ⟨bO, hbO⟩ : ∃ b, w3.heap.size = b := ⟨_, rfl⟩
    rw [hbO] at kO hgl ⊢
    have hgO : bO ≠ g := by omega
    have hgX : qx ≠ g := hgx
    have HFU := Lib.hid U4.2
    clear hV1 hbO B1 hV0 U3 hsm hck hok hslv hFit
    obtain ⟨U, hU⟩ : ∃ U, U = V1 := ⟨_, rfl⟩
    subst hU
    go_upto_region 5 with fail
    go_cut [9, 10] from 35 to 110 (fun v9 v10 x => ∃ (bv bl : Nat) (SA : Option Addr) (sc : Nat) (s : List Int), v9 = .slice (some ⟨bv, 0, none⟩) 2 2 ∧ v10 = .slice (some ⟨bl, 0, none⟩) 2 2 ∧ Bx x bv 26 #[.int .i64 v0.li, .int .i64 v0.un, .int .i64 v0.tr, .slice p0.HA p0.hn p0.hc, .int .i64 v0.le, .slice p0.SA p0.sn p0.sc, .slice p0.LA p0.ln p0.lc, .int .i64 v.li, .int .i64 v.un, .int .i64 v.tr, .slice p.HA p.hn p.hc, .int .i64 v.le, .slice p.SA p.sn p.sc, .slice p.LA p.ln p.lc] ∧ Bx x bl 27 #[.slice A0 n0 d0, .slice SA p.ln sc] ∧ s.length = p.ln ∧ VoyAt x x.heap.size v p ∧ Sl x x.heap.size 1 SA (inr s) ∧ Below W1.heap.size W1 x)
    case first =>
      refine AnyG.startC (by as_aux_lemma => kernel_rfl) ?_
      refine AnyG.takeP (i := 3) (v := ?_) rfl (by as_aux_lemma => kernel_rfl) (fun _ _ _ h => h) rfl ?_ ?_
      rotate_left
      · (intro w'; go_simp; try with_reducible rfl)
      try simp only [Act.put, List.getElem_toArray, List.getElem_cons_succ, List.getElem_cons_zero, List.setIfInBounds_toArray, List.set_cons_zero, List.set_cons_succ]
      refine AnyG.takeP (i := 4) (v := ?_) rfl (by as_aux_lemma => kernel_rfl) (fun _ _ _ h => h) rfl ?_ ?_
      rotate_left
      · (intro w'; go_simp; try with_reducible rfl)
      try simp only [Act.put, List.getElem_toArray, List.getElem_cons_succ, List.getElem_cons_zero, List.setIfInBounds_toArray, List.set_cons_zero, List.set_cons_succ]
      refine AnyG.enter (fun w' : World => FT g U w') (fun i => i != 9) ?_
      have hS : (fun w' : World => FT g U w') (U.drew) := (FT.self U4.2).drew
      try dsimp only at hS
      obtain ⟨y0, hy0⟩ : ∃ y, U.drew = y := ⟨_, rfl⟩
      rw [hy0] at hS ⊢
      clear hy0
      refine AnyG.takeC (i := 0) (v := ?_) rfl (by as_aux_lemma => kernel_rfl) (fun _ _ _ h => h) rfl ?_ hS ?_
      rotate_left
      · (intro w' hSw; (try dsimp only at hSw); have h0 := hSw; obtain ⟨x0, x1, x2, x3, x4, x5, x6, xf, xz⟩ := (hSw.bx kX hgX).seven; go_simp; try with_reducible rfl)
      try simp only [Act.put, List.getElem_toArray, List.getElem_cons_succ, List.getElem_cons_zero, List.setIfInBounds_toArray, List.set_cons_zero, List.set_cons_succ]
      refine AnyG.takeC (i := 1) (v := ?_) rfl (by as_aux_lemma => kernel_rfl) (fun _ _ _ h => h) rfl ?_ hS ?_
      rotate_left
      · (intro w' hSw; (try dsimp only at hSw); obtain ⟨x0, x1, x2, x3, x4, x5, x6, xf, xz⟩ := (hSw.bx kO hgO).seven; go_simp; try with_reducible rfl)
      try simp only [Act.put, List.getElem_toArray, List.getElem_cons_succ, List.getElem_cons_zero, List.setIfInBounds_toArray, List.set_cons_zero, List.set_cons_succ]
      refine AnyG.takeC (i := 5) (v := ?_) rfl (by as_aux_lemma => kernel_rfl) (fun _ _ _ h => h) rfl ?_ hS ?_
      rotate_left
      · (intro w' hSw; (try dsimp only at hSw); obtain ⟨x0, x1, x2, x3, x4, x5, x6, xf, xz⟩ := (hSw.bx kO hgO).seven; go_simp; try with_reducible rfl)
      try simp only [Act.put, List.getElem_toArray, List.getElem_cons_succ, List.getElem_cons_zero, List.setIfInBounds_toArray, List.set_cons_zero, List.set_cons_succ]
      refine AnyG.all (rs := [2, 6]) (by as_aux_lemma => kernel_rfl) (by simp) ?_
      intro ii hii
      simp only [List.mem_cons, List.not_mem_nil, or_false] at hii
      rcases hii with rfl | rfl
      · refine ⟨_, rfl, rfl, ?_⟩
        go_simp
        have kB := Bx.new y0 26 #[.int .i64 v0.li, .int .i64 v0.un, .int .i64 v0.tr, .slice p0.HA p0.hn p0.hc, .int .i64 v0.le, .slice p0.SA p0.sn p0.sc, .slice p0.LA p0.ln p0.lc, .int .i64 v.li, .int .i64 v.un, .int .i64 v.tr, .slice p.HA p.hn p.hc, .int .i64 v.le, .slice p.SA p.sn p.sc, .slice p.LA p.ln p.lc]
        have hlB := hS.size
        have hT := hS.alloc (.cells #[.int .i64 v0.li, .int .i64 v0.un, .int .i64 v0.tr, .slice p0.HA p0.hn p0.hc, .int .i64 v0.le, .slice p0.SA p0.sn p0.sc, .slice p0.LA p0.ln p0.lc, .int .i64 v.li, .int .i64 v.un, .int .i64 v.tr, .slice p.HA p.hn p.hc, .int .i64 v.le, .slice p.SA p.sn p.sc, .slice p.LA p.ln p.lc] 26)
        obtain ⟨z2, hy⟩ : ∃ x, y0.alloc (.cells #[.int .i64 v0.li, .int .i64 v0.un, .int .i64 v0.tr, .slice p0.HA p0.hn p0.hc, .int .i64 v0.le, .slice p0.SA p0.sn p0.sc, .slice p0.LA p0.ln p0.lc, .int .i64 v.li, .int .i64 v.un, .int .i64 v.tr, .slice p.HA p.hn p.hc, .int .i64 v.le, .slice p.SA p.sn p.sc, .slice p.LA p.ln p.lc] 26) = x := ⟨_, rfl⟩
        rw [hy] at hT kB ⊢
        obtain ⟨bv, hbq⟩ : ∃ q, y0.heap.size = q := ⟨_, rfl⟩
        rw [hbq] at kB hlB ⊢
        clear hy hbq
        have hSn := hT
        clear hS
        refine Onward.on hSn (fun hS => ?_)
        try dsimp only at hS
        clear hSn
        try simp only [Act.put, List.getElem_toArray, List.getElem_cons_succ, List.getElem_cons_zero, List.setIfInBounds_toArray, List.set_cons_zero, List.set_cons_succ]
        refine AnyG.one (i := 6) (by as_aux_lemma => kernel_rfl) rfl rfl ?_
        go_simp
        refine (stowageOf_any g v p _ hS.2 HCK.out (hS.voy HFU.out hO)).mono ?_
        rintro e6 z6 ⟨⟨SA, sc, s, rfl, hsl, hst, hSV⟩, hU6⟩
        have hT : FT g U z6 := ⟨grownF_trans hS.1 hU6.1, hU6.2⟩
        replace kB := hU6.bx kB (by have := HFU.out.lt; omega)
        have hSn := hT
        clear hS
        refine Onward.on hSn (fun hS => ?_)
        try dsimp only at hS
        clear hSn
        try simp only [Act.put, List.getElem_toArray, List.getElem_cons_succ, List.getElem_cons_zero, List.setIfInBounds_toArray, List.set_cons_zero, List.set_cons_succ]
        refine AnyG.all (rs := [7, 8]) (by as_aux_lemma => kernel_rfl) (by simp) ?_
        intro ii hii
        simp only [List.mem_cons, List.not_mem_nil, or_false] at hii
        rcases hii with rfl | rfl
        · refine ⟨_, rfl, rfl, ?_⟩
          go_simp
          have kL := Bx.new z6 27 #[.slice A0 n0 d0, .slice SA p.ln sc]
          have hT := hS.alloc (.cells #[.slice A0 n0 d0, .slice SA p.ln sc] 27)
          replace hSV := (hSV.below (bel1 z6 (.cells #[.slice A0 n0 d0, .slice SA p.ln sc] 27))).more (bel1 z6 (.cells #[.slice A0 n0 d0, .slice SA p.ln sc] 27)).size
          replace kB := kB.alloc (.cells #[.slice A0 n0 d0, .slice SA p.ln sc] 27)
          obtain ⟨z7, hy⟩ : ∃ x, z6.alloc (.cells #[.slice A0 n0 d0, .slice SA p.ln sc] 27) = x := ⟨_, rfl⟩
          rw [hy] at hT hSV kL kB ⊢
          obtain ⟨bl, hbq⟩ : ∃ q, z6.heap.size = q := ⟨_, rfl⟩
          rw [hbq] at kL ⊢
          clear hy hbq
          have hSn := hT
          clear hS
          refine Onward.on hSn (fun hS => ?_)
          try dsimp only at hS
          clear hSn
          try simp only [Act.put, List.getElem_toArray, List.getElem_cons_succ, List.getElem_cons_zero, List.setIfInBounds_toArray, List.set_cons_zero, List.set_cons_succ]
          refine AnyG.one (i := 8) (by as_aux_lemma => kernel_rfl) rfl rfl ?_
          go_simp
          refine Onward.on hS (fun hS2 => ?_)
          clear hS2
          try simp only [Act.put, List.getElem_toArray, List.getElem_cons_succ, List.getElem_cons_zero, List.setIfInBounds_toArray, List.set_cons_zero, List.set_cons_succ]
          refine AnyG.one (i := 9) (by as_aux_lemma => kernel_rfl) rfl rfl ?_
          go_simp
          refine Onward.last rfl ?_
          try simp only [Act.put, List.getElem_toArray, List.getElem_cons_succ, List.getElem_cons_zero, List.setIfInBounds_toArray, List.set_cons_zero, List.set_cons_succ]
          refine AnyG.done (by as_aux_lemma => kernel_rfl) ?_ _
          go_simp
          go_wp2_with fail
          go_meet
          have hVf := hS.voy HFU.out hO
          have U5 : FT g w1 z7 := ⟨grownF_trans U4.1 hS.1, hS.2⟩
          exact ⟨bv, bl, SA, sc, s, rfl, rfl, kB, kL, hsl, hVf, hSV, U5.be hb1 hg0⟩
        · refine ⟨_, rfl, rfl, ?_⟩
          go_simp
          refine Onward.on hS (fun hS2 => ?_)
          clear hS2
          try simp only [Act.put, List.getElem_toArray, List.getElem_cons_succ, List.getElem_cons_zero, List.setIfInBounds_toArray, List.set_cons_zero, List.set_cons_succ]
          refine AnyG.one (i := 7) (by as_aux_lemma => kernel_rfl) rfl rfl ?_
          go_simp
          have kL := Bx.new z6 27 #[.slice A0 n0 d0, .slice SA p.ln sc]
          have hT := hS.alloc (.cells #[.slice A0 n0 d0, .slice SA p.ln sc] 27)
          replace hSV := (hSV.below (bel1 z6 (.cells #[.slice A0 n0 d0, .slice SA p.ln sc] 27))).more (bel1 z6 (.cells #[.slice A0 n0 d0, .slice SA p.ln sc] 27)).size
          replace kB := kB.alloc (.cells #[.slice A0 n0 d0, .slice SA p.ln sc] 27)
          obtain ⟨z7, hy⟩ : ∃ x, z6.alloc (.cells #[.slice A0 n0 d0, .slice SA p.ln sc] 27) = x := ⟨_, rfl⟩
          rw [hy] at hT hSV kL kB ⊢
          obtain ⟨bl, hbq⟩ : ∃ q, z6.heap.size = q := ⟨_, rfl⟩
          rw [hbq] at kL ⊢
          clear hy hbq
          have hSn := hT
          clear hS
          refine Onward.on hSn (fun hS => ?_)
          try dsimp only at hS
          clear hSn
          try simp only [Act.put, List.getElem_toArray, List.getElem_cons_succ, List.getElem_cons_zero, List.setIfInBounds_toArray, List.set_cons_zero, List.set_cons_succ]
          refine AnyG.one (i := 9) (by as_aux_lemma => kernel_rfl) rfl rfl ?_
          go_simp
          refine Onward.last rfl ?_
          try simp only [Act.put, List.getElem_toArray, List.getElem_cons_succ, List.getElem_cons_zero, List.setIfInBounds_toArray, List.set_cons_zero, List.set_cons_succ]
          refine AnyG.done (by as_aux_lemma => kernel_rfl) ?_ _
          go_simp
          go_wp2_with fail
          go_meet
          have hVf := hS.voy HFU.out hO
          have U5 : FT g w1 z7 := ⟨grownF_trans U4.1 hS.1, hS.2⟩
          exact ⟨bv, bl, SA, sc, s, rfl, rfl, kB, kL, hsl, hVf, hSV, U5.be hb1 hg0⟩
      · refine ⟨_, rfl, rfl, ?_⟩
        go_simp
        refine (stowageOf_any g v p _ hS.2 HCK.out (hS.voy HFU.out hO)).mono ?_
        rintro e6 z6 ⟨⟨SA, sc, s, rfl, hsl, hst, hSV⟩, hU6⟩
        have hT : FT g U z6 := ⟨grownF_trans hS.1 hU6.1, hU6.2⟩
        have hSn := hT
        clear hS
        refine Onward.on hSn (fun hS => ?_)
        try dsimp only at hS
        clear hSn
        try simp only [Act.put, List.getElem_toArray, List.getElem_cons_succ, List.getElem_cons_zero, List.setIfInBounds_toArray, List.set_cons_zero, List.set_cons_succ]
        refine AnyG.all (rs := [2, 7]) (by as_aux_lemma => kernel_rfl) (by simp) ?_
        intro ii hii
        simp only [List.mem_cons, List.not_mem_nil, or_false] at hii
        rcases hii with rfl | rfl
        · refine ⟨_, rfl, rfl, ?_⟩
          go_simp
          have kB := Bx.new z6 26 #[.int .i64 v0.li, .int .i64 v0.un, .int .i64 v0.tr, .slice p0.HA p0.hn p0.hc, .int .i64 v0.le, .slice p0.SA p0.sn p0.sc, .slice p0.LA p0.ln p0.lc, .int .i64 v.li, .int .i64 v.un, .int .i64 v.tr, .slice p.HA p.hn p.hc, .int .i64 v.le, .slice p.SA p.sn p.sc, .slice p.LA p.ln p.lc]
          have hlB := hS.size
          have hT := hS.alloc (.cells #[.int .i64 v0.li, .int .i64 v0.un, .int .i64 v0.tr, .slice p0.HA p0.hn p0.hc, .int .i64 v0.le, .slice p0.SA p0.sn p0.sc, .slice p0.LA p0.ln p0.lc, .int .i64 v.li, .int .i64 v.un, .int .i64 v.tr, .slice p.HA p.hn p.hc, .int .i64 v.le, .slice p.SA p.sn p.sc, .slice p.LA p.ln p.lc] 26)
          replace hSV := (hSV.below (bel1 z6 (.cells #[.int .i64 v0.li, .int .i64 v0.un, .int .i64 v0.tr, .slice p0.HA p0.hn p0.hc, .int .i64 v0.le, .slice p0.SA p0.sn p0.sc, .slice p0.LA p0.ln p0.lc, .int .i64 v.li, .int .i64 v.un, .int .i64 v.tr, .slice p.HA p.hn p.hc, .int .i64 v.le, .slice p.SA p.sn p.sc, .slice p.LA p.ln p.lc] 26))).more (bel1 z6 (.cells #[.int .i64 v0.li, .int .i64 v0.un, .int .i64 v0.tr, .slice p0.HA p0.hn p0.hc, .int .i64 v0.le, .slice p0.SA p0.sn p0.sc, .slice p0.LA p0.ln p0.lc, .int .i64 v.li, .int .i64 v.un, .int .i64 v.tr, .slice p.HA p.hn p.hc, .int .i64 v.le, .slice p.SA p.sn p.sc, .slice p.LA p.ln p.lc] 26)).size
          obtain ⟨z2, hy⟩ : ∃ x, z6.alloc (.cells #[.int .i64 v0.li, .int .i64 v0.un, .int .i64 v0.tr, .slice p0.HA p0.hn p0.hc, .int .i64 v0.le, .slice p0.SA p0.sn p0.sc, .slice p0.LA p0.ln p0.lc, .int .i64 v.li, .int .i64 v.un, .int .i64 v.tr, .slice p.HA p.hn p.hc, .int .i64 v.le, .slice p.SA p.sn p.sc, .slice p.LA p.ln p.lc] 26) = x := ⟨_, rfl⟩
          rw [hy] at hT kB hSV ⊢
          obtain ⟨bv, hbq⟩ : ∃ q, z6.heap.size = q := ⟨_, rfl⟩
          rw [hbq] at kB hlB ⊢
          clear hy hbq
          have hSn := hT
          clear hS
          refine Onward.on hSn (fun hS => ?_)
          try dsimp only at hS
          clear hSn
          try simp only [Act.put, List.getElem_toArray, List.getElem_cons_succ, List.getElem_cons_zero, List.setIfInBounds_toArray, List.set_cons_zero, List.set_cons_succ]
          refine AnyG.all (rs := [7, 8]) (by as_aux_lemma => kernel_rfl) (by simp) ?_
          intro ii hii
          simp only [List.mem_cons, List.not_mem_nil, or_false] at hii
          rcases hii with rfl | rfl
          · refine ⟨_, rfl, rfl, ?_⟩
            go_simp
            have kL := Bx.new z2 27 #[.slice A0 n0 d0, .slice SA p.ln sc]
            have hT := hS.alloc (.cells #[.slice A0 n0 d0, .slice SA p.ln sc] 27)
            replace hSV := (hSV.below (bel1 z2 (.cells #[.slice A0 n0 d0, .slice SA p.ln sc] 27))).more (bel1 z2 (.cells #[.slice A0 n0 d0, .slice SA p.ln sc] 27)).size
            replace kB := kB.alloc (.cells #[.slice A0 n0 d0, .slice SA p.ln sc] 27)
            obtain ⟨z7, hy⟩ : ∃ x, z2.alloc (.cells #[.slice A0 n0 d0, .slice SA p.ln sc] 27) = x := ⟨_, rfl⟩
            rw [hy] at hT hSV kL kB ⊢
            obtain ⟨bl, hbq⟩ : ∃ q, z2.heap.size = q := ⟨_, rfl⟩
            rw [hbq] at kL ⊢
            clear hy hbq
            have hSn := hT
            clear hS
            refine Onward.on hSn (fun hS => ?_)
            try dsimp only at hS
            clear hSn
            try simp only [Act.put, List.getElem_toArray, List.getElem_cons_succ, List.getElem_cons_zero, List.setIfInBounds_toArray, List.set_cons_zero, List.set_cons_succ]
            refine AnyG.one (i := 8) (by as_aux_lemma => kernel_rfl) rfl rfl ?_
            go_simp
            refine Onward.on hS (fun hS2 => ?_)
            clear hS2
            try simp only [Act.put, List.getElem_toArray, List.getElem_cons_succ, List.getElem_cons_zero, List.setIfInBounds_toArray, List.set_cons_zero, List.set_cons_succ]
            refine AnyG.one (i := 9) (by as_aux_lemma => kernel_rfl) rfl rfl ?_
            go_simp
            refine Onward.last rfl ?_
            try simp only [Act.put, List.getElem_toArray, List.getElem_cons_succ, List.getElem_cons_zero, List.setIfInBounds_toArray, List.set_cons_zero, List.set_cons_succ]
            refine AnyG.done (by as_aux_lemma => kernel_rfl) ?_ _
            go_simp
            go_wp2_with fail
            go_meet
            have hVf := hS.voy HFU.out hO
            have U5 : FT g w1 z7 := ⟨grownF_trans U4.1 hS.1, hS.2⟩
            exact ⟨bv, bl, SA, sc, s, rfl, rfl, kB, kL, hsl, hVf, hSV, U5.be hb1 hg0⟩
          · refine ⟨_, rfl, rfl, ?_⟩
            go_simp
            refine Onward.on hS (fun hS2 => ?_)
            clear hS2
            try simp only [Act.put, List.getElem_toArray, List.getElem_cons_succ, List.getElem_cons_zero, List.setIfInBounds_toArray, List.set_cons_zero, List.set_cons_succ]
            refine AnyG.one (i := 7) (by as_aux_lemma => kernel_rfl) rfl rfl ?_
            go_simp
            have kL := Bx.new z2 27 #[.slice A0 n0 d0, .slice SA p.ln sc]
            have hT := hS.alloc (.cells #[.slice A0 n0 d0, .slice SA p.ln sc] 27)
            replace hSV := (hSV.below (bel1 z2 (.cells #[.slice A0 n0 d0, .slice SA p.ln sc] 27))).more (bel1 z2 (.cells #[.slice A0 n0 d0, .slice SA p.ln sc] 27)).size
            replace kB := kB.alloc (.cells #[.slice A0 n0 d0, .slice SA p.ln sc] 27)
            obtain ⟨z7, hy⟩ : ∃ x, z2.alloc (.cells #[.slice A0 n0 d0, .slice SA p.ln sc] 27) = x := ⟨_, rfl⟩
            rw [hy] at hT hSV kL kB ⊢
            obtain ⟨bl, hbq⟩ : ∃ q, z2.heap.size = q := ⟨_, rfl⟩
            rw [hbq] at kL ⊢
            clear hy hbq
            have hSn := hT
            clear hS
            refine Onward.on hSn (fun hS => ?_)
            try dsimp only at hS
            clear hSn
            try simp only [Act.put, List.getElem_toArray, List.getElem_cons_succ, List.getElem_cons_zero, List.setIfInBounds_toArray, List.set_cons_zero, List.set_cons_succ]
            refine AnyG.one (i := 9) (by as_aux_lemma => kernel_rfl) rfl rfl ?_
            go_simp
            refine Onward.last rfl ?_
            try simp only [Act.put, List.getElem_toArray, List.getElem_cons_succ, List.getElem_cons_zero, List.setIfInBounds_toArray, List.set_cons_zero, List.set_cons_succ]
            refine AnyG.done (by as_aux_lemma => kernel_rfl) ?_ _
            go_simp
            go_wp2_with fail
            go_meet
            have hVf := hS.voy HFU.out hO
            have U5 : FT g w1 z7 := ⟨grownF_trans U4.1 hS.1, hS.2⟩
            exact ⟨bv, bl, SA, sc, s, rfl, rfl, kB, kL, hsl, hVf, hSV, U5.be hb1 hg0⟩
        · refine ⟨_, rfl, rfl, ?_⟩
          go_simp
          have kL := Bx.new z6 27 #[.slice A0 n0 d0, .slice SA p.ln sc]
          have hT := hS.alloc (.cells #[.slice A0 n0 d0, .slice SA p.ln sc] 27)
          replace hSV := (hSV.below (bel1 z6 (.cells #[.slice A0 n0 d0, .slice SA p.ln sc] 27))).more (bel1 z6 (.cells #[.slice A0 n0 d0, .slice SA p.ln sc] 27)).size
          obtain ⟨z7, hy⟩ : ∃ x, z6.alloc (.cells #[.slice A0 n0 d0, .slice SA p.ln sc] 27) = x := ⟨_, rfl⟩
          rw [hy] at hT hSV kL ⊢
          obtain ⟨bl, hbq⟩ : ∃ q, z6.heap.size = q := ⟨_, rfl⟩
          rw [hbq] at kL ⊢
          clear hy hbq
          have hSn := hT
          clear hS
          refine Onward.on hSn (fun hS => ?_)
          try dsimp only at hS
          clear hSn
          try simp only [Act.put, List.getElem_toArray, List.getElem_cons_succ, List.getElem_cons_zero, List.setIfInBounds_toArray, List.set_cons_zero, List.set_cons_succ]
          refine AnyG.one (i := 2) (by as_aux_lemma => kernel_rfl) rfl rfl ?_
          go_simp
          have kB := Bx.new z7 26 #[.int .i64 v0.li, .int .i64 v0.un, .int .i64 v0.tr, .slice p0.HA p0.hn p0.hc, .int .i64 v0.le, .slice p0.SA p0.sn p0.sc, .slice p0.LA p0.ln p0.lc, .int .i64 v.li, .int .i64 v.un, .int .i64 v.tr, .slice p.HA p.hn p.hc, .int .i64 v.le, .slice p.SA p.sn p.sc, .slice p.LA p.ln p.lc]
          have hlB := hS.size
          have hT := hS.alloc (.cells #[.int .i64 v0.li, .int .i64 v0.un, .int .i64 v0.tr, .slice p0.HA p0.hn p0.hc, .int .i64 v0.le, .slice p0.SA p0.sn p0.sc, .slice p0.LA p0.ln p0.lc, .int .i64 v.li, .int .i64 v.un, .int .i64 v.tr, .slice p.HA p.hn p.hc, .int .i64 v.le, .slice p.SA p.sn p.sc, .slice p.LA p.ln p.lc] 26)
          replace hSV := (hSV.below (bel1 z7 (.cells #[.int .i64 v0.li, .int .i64 v0.un, .int .i64 v0.tr, .slice p0.HA p0.hn p0.hc, .int .i64 v0.le, .slice p0.SA p0.sn p0.sc, .slice p0.LA p0.ln p0.lc, .int .i64 v.li, .int .i64 v.un, .int .i64 v.tr, .slice p.HA p.hn p.hc, .int .i64 v.le, .slice p.SA p.sn p.sc, .slice p.LA p.ln p.lc] 26))).more (bel1 z7 (.cells #[.int .i64 v0.li, .int .i64 v0.un, .int .i64 v0.tr, .slice p0.HA p0.hn p0.hc, .int .i64 v0.le, .slice p0.SA p0.sn p0.sc, .slice p0.LA p0.ln p0.lc, .int .i64 v.li, .int .i64 v.un, .int .i64 v.tr, .slice p.HA p.hn p.hc, .int .i64 v.le, .slice p.SA p.sn p.sc, .slice p.LA p.ln p.lc] 26)).size
          replace kL := kL.alloc (.cells #[.int .i64 v0.li, .int .i64 v0.un, .int .i64 v0.tr, .slice p0.HA p0.hn p0.hc, .int .i64 v0.le, .slice p0.SA p0.sn p0.sc, .slice p0.LA p0.ln p0.lc, .int .i64 v.li, .int .i64 v.un, .int .i64 v.tr, .slice p.HA p.hn p.hc, .int .i64 v.le, .slice p.SA p.sn p.sc, .slice p.LA p.ln p.lc] 26)
          obtain ⟨z2, hy⟩ : ∃ x, z7.alloc (.cells #[.int .i64 v0.li, .int .i64 v0.un, .int .i64 v0.tr, .slice p0.HA p0.hn p0.hc, .int .i64 v0.le, .slice p0.SA p0.sn p0.sc, .slice p0.LA p0.ln p0.lc, .int .i64 v.li, .int .i64 v.un, .int .i64 v.tr, .slice p.HA p.hn p.hc, .int .i64 v.le, .slice p.SA p.sn p.sc, .slice p.LA p.ln p.lc] 26) = x := ⟨_, rfl⟩
          rw [hy] at hT kB hSV kL ⊢
          obtain ⟨bv, hbq⟩ : ∃ q, z7.heap.size = q := ⟨_, rfl⟩
          rw [hbq] at kB hlB ⊢
          clear hy hbq
          have hSn := hT
          clear hS
          refine Onward.on hSn (fun hS => ?_)
          try dsimp only at hS
          clear hSn
          try simp only [Act.put, List.getElem_toArray, List.getElem_cons_succ, List.getElem_cons_zero, List.setIfInBounds_toArray, List.set_cons_zero, List.set_cons_succ]
          refine AnyG.one (i := 8) (by as_aux_lemma => kernel_rfl) rfl rfl ?_
          go_simp
          refine Onward.on hS (fun hS2 => ?_)
          clear hS2
          try simp only [Act.put, List.getElem_toArray, List.getElem_cons_succ, List.getElem_cons_zero, List.setIfInBounds_toArray, List.set_cons_zero, List.set_cons_succ]
          refine AnyG.one (i := 9) (by as_aux_lemma => kernel_rfl) rfl rfl ?_
          go_simp
          refine Onward.last rfl ?_
          try simp only [Act.put, List.getElem_toArray, List.getElem_cons_succ, List.getElem_cons_zero, List.setIfInBounds_toArray, List.set_cons_zero, List.set_cons_succ]
          refine AnyG.done (by as_aux_lemma => kernel_rfl) ?_ _
          go_simp
          go_wp2_with fail
          go_meet
          have hVf := hS.voy HFU.out hO
          have U5 : FT g w1 z2 := ⟨grownF_trans U4.1 hS.1, hS.2⟩
          exact ⟨bv, bl, SA, sc, s, rfl, rfl, kB, kL, hsl, hVf, hSV, U5.be hb1 hg0⟩
    case rest =>
      obtain ⟨bv, bl, SA, sc, s, rfl, rfl, kB, kL, hsn, hV, hSV, hq⟩ := hcut
      replace BW := BW.trans (hq.mono BW.size)
      have hPR := pairs2_of kB kL (hX.call hq) hV ((hS0.below hq).more hq.size) hSV HSL.out.1 HSV.out HL0.out hsn HSL.out.2 (by omega)
      obtain ⟨V, hV3⟩ : ∃ U, U = wc := ⟨_, rfl⟩
      subst hV3
      obtain ⟨al, hal⟩ : ∃ a : Addr, ⟨bl, 0, none⟩ = a := ⟨_, rfl⟩
      obtain ⟨ad, had⟩ : ∃ a : Addr, ⟨bv, 0, none⟩ = a := ⟨_, rfl⟩
      rw [hal, had] at hPR ⊢
      have HPR := Lib.hid hPR
      clear kB kL hq hPR hX hV hS0 hSV hal had kX kO hO hsn HSL HSV HL0 HL hln6 hb1 hfd U4 hg0 hgl hA HFU HCK
      go_wp2_with fail
      go_loopw [11, 12, 13, 14, 15, 16, 17, 18, 19] (fun i _ _ _ _ _ _ _ _ wr => ∃ k : Nat, i = .int .i64 k ∧ k ≤ 2 ∧ Below V.heap.size V wr) (fun i _ _ _ _ _ _ _ _ _ => 2 - (intOf i).toNat)
      case atStart => exact ⟨0, rfl, by omega, Below.refl _ _⟩
      case round =>
        obtain ⟨k, rfl, hk, hBW⟩ := hrel
        by_cases hk4 : k < 2
        · obtain ⟨v, p, s, A, n, c, hP0, hO0⟩ := HPR.out k hk4
          have hPU := hP0.call hBW
          have HO := Lib.hid hO0
          clear hP0 hO0
          have hk4i : (k : Int) < 2 := by omega
          have hkw : IntKind.i64.wrap ((k : Int) + 1) = (k : Int) + 1 := IntWalk.i64_in _ (by omega)
          obtain ⟨W, hW⟩ : ∃ W, W = wr := ⟨_, rfl⟩
          subst hW
          go_upto_region 9 with fail
          obtain ⟨U, hU⟩ : ∃ U, U = W := ⟨_, rfl⟩
          subst hU
          go_cut [12, 13] from 43 to 110 (fun v18 v19 x => ∃ (q : Nat) (HA : Option Addr) (hc : Nat) (SA : Option Addr) (sc : Nat) (LA : Option Addr) (lc : Nat) (B : Option Addr) (d : Nat), v18 = .pointer (some ⟨q, 0, none⟩) ∧ v19 = .slice B n d ∧ Bx x q 26 #[.int .i64 v.li, .int .i64 v.un, .int .i64 v.tr, .slice HA p.hn hc, .int .i64 v.le, .slice SA p.sn sc, .slice LA p.ln lc] ∧ VoyAt x x.heap.size v ⟨HA, p.hn, hc, SA, p.sn, sc, LA, p.ln, lc⟩ ∧ Sl x x.heap.size 1 B (inr s) ∧ Below U.heap.size U x)
          case first =>
            refine AnyG.startC (by as_aux_lemma => kernel_rfl) ?_
            refine AnyG.takeP (i := 0) (v := ?_) rfl (by as_aux_lemma => kernel_rfl) (fun _ _ _ h => h) rfl ?_ ?_
            rotate_left
            · (intro w'; go_simp; try with_reducible rfl)
            try simp only [Act.put, List.getElem_toArray, List.getElem_cons_succ, List.getElem_cons_zero, List.setIfInBounds_toArray, List.set_cons_zero, List.set_cons_succ]
            refine AnyG.takeP (i := 1) (v := ?_) rfl (by as_aux_lemma => kernel_rfl) (fun _ _ _ h => h) rfl ?_ ?_
            rotate_left
            · (intro w'; go_simp; try with_reducible rfl)
            try simp only [Act.put, List.getElem_toArray, List.getElem_cons_succ, List.getElem_cons_zero, List.setIfInBounds_toArray, List.set_cons_zero, List.set_cons_succ]
            refine AnyG.takeP (i := 2) (v := ?_) rfl (by as_aux_lemma => kernel_rfl) (fun _ _ _ h => h) rfl ?_ ?_
            rotate_left
            · (intro w'; go_simp; try with_reducible rfl)
            try simp only [Act.put, List.getElem_toArray, List.getElem_cons_succ, List.getElem_cons_zero, List.setIfInBounds_toArray, List.set_cons_zero, List.set_cons_succ]
            refine AnyG.takeP (i := 5) (v := ?_) rfl (by as_aux_lemma => kernel_rfl) (fun _ _ _ h => h) rfl ?_ ?_
            rotate_left
            · (intro w'; go_simp; try with_reducible rfl)
            try simp only [Act.put, List.getElem_toArray, List.getElem_cons_succ, List.getElem_cons_zero, List.setIfInBounds_toArray, List.set_cons_zero, List.set_cons_succ]
            refine AnyG.takeP (i := 6) (v := ?_) rfl (by as_aux_lemma => kernel_rfl) (fun _ _ _ h => h) rfl ?_ ?_
            rotate_left
            · (intro w'; go_simp; try with_reducible rfl)
            try simp only [Act.put, List.getElem_toArray, List.getElem_cons_succ, List.getElem_cons_zero, List.setIfInBounds_toArray, List.set_cons_zero, List.set_cons_succ]
            refine AnyG.takeP (i := 7) (v := ?_) rfl (by as_aux_lemma => kernel_rfl) (fun _ _ _ h => h) rfl ?_ ?_
            rotate_left
            · (intro w'; go_simp; try with_reducible rfl)
            try simp only [Act.put, List.getElem_toArray, List.getElem_cons_succ, List.getElem_cons_zero, List.setIfInBounds_toArray, List.set_cons_zero, List.set_cons_succ]
            refine AnyG.enter (fun w' : World => Below U.heap.size U w') (fun i => i != 11 && i != 12) ?_
            have hS : (fun w' : World => Below U.heap.size U w') (U.drew) := (Below.refl _ _).drew
            try dsimp only at hS
            obtain ⟨y0, hy0⟩ : ∃ y, U.drew = y := ⟨_, rfl⟩
            rw [hy0] at hS ⊢
            clear hy0
            refine AnyG.takeC (i := 3) (v := ?_) rfl (by as_aux_lemma => kernel_rfl) (fun _ _ _ h => h) rfl ?_ hS ?_
            rotate_left
            · (intro w' hSw; (try dsimp only at hSw); have hp := hPU.call hSw; have c0 := hp.c0; have c1 := hp.c1; have c2 := hp.c2; have c3 := hp.c3; have c4 := hp.c4; have c5 := hp.c5; have c6 := hp.c6; go_simp; try with_reducible rfl)
            try simp only [Act.put, List.getElem_toArray, List.getElem_cons_succ, List.getElem_cons_zero, List.setIfInBounds_toArray, List.set_cons_zero, List.set_cons_succ]
            refine AnyG.takeC (i := 8) (v := ?_) rfl (by as_aux_lemma => kernel_rfl) (fun _ _ _ h => h) rfl ?_ hS ?_
            rotate_left
            · (intro w' hSw; (try dsimp only at hSw); have b0 := (hPU.call hSw).b0; go_simp; try with_reducible rfl)
            try simp only [Act.put, List.getElem_toArray, List.getElem_cons_succ, List.getElem_cons_zero, List.setIfInBounds_toArray, List.set_cons_zero, List.set_cons_succ]
            refine AnyG.all (rs := [4, 10]) (by as_aux_lemma => kernel_rfl) (by simp) ?_
            intro ii hii
            simp only [List.mem_cons, List.not_mem_nil, or_false] at hii
            rcases hii with rfl | rfl
            · refine ⟨_, rfl, rfl, ?_⟩
              go_simp
              refine (copyVoyage_gen v p _ HO.out.slim (hPU.call hS).hV).mono ?_
              rintro e4 z4 ⟨HA, hc, SA, sc, LA, lc, rs, rfl, oh, os, so, -, ol, hq4⟩
              have hSn := (hS.trans (hq4.mono hS.size))
              clear hS
              refine Onward.on hSn (fun hS => ?_)
              try dsimp only at hS
              clear hSn
              try simp only [Act.put, List.getElem_toArray, List.getElem_cons_succ, List.getElem_cons_zero, List.setIfInBounds_toArray, List.set_cons_zero, List.set_cons_succ]
              refine AnyG.all (rs := [9, 10]) (by as_aux_lemma => kernel_rfl) (by simp) ?_
              intro ii hii
              simp only [List.mem_cons, List.not_mem_nil, or_false] at hii
              rcases hii with rfl | rfl
              · refine ⟨_, rfl, rfl, ?_⟩
                go_simp
                refine (ints20_any A n c s _ (by have := HO.out.n20; omega) HO.out.sl (hPU.call hS).hS).mono ?_
                rintro e9 z9 ⟨⟨B, d, rfl, oB⟩, hq9⟩
                replace oh := own_bel oh hq9
                replace os := own_bel os hq9
                replace ol := own_bel ol hq9
                replace so := so.bel hq9
                have hSn := (hS.trans (hq9.mono hS.size))
                clear hS
                refine Onward.on hSn (fun hS => ?_)
                try dsimp only at hS
                clear hSn
                try simp only [Act.put, List.getElem_toArray, List.getElem_cons_succ, List.getElem_cons_zero, List.setIfInBounds_toArray, List.set_cons_zero, List.set_cons_succ]
                refine AnyG.one (i := 10) (by as_aux_lemma => kernel_rfl) rfl rfl ?_
                go_simp
                have hq10 := bel1 z9 (.cells #[.int .i64 0, .int .i64 0, .int .i64 0, .slice none 0 0, .int .i64 0, .slice none 0 0, .slice none 0 0] 26)
                replace oh := own_bel oh hq10
                replace os := own_bel os hq10
                replace ol := own_bel ol hq10
                replace so := so.bel hq10
                replace oB := own_bel oB hq10
                have kq := Bx.new z9 26 #[.int .i64 0, .int .i64 0, .int .i64 0, .slice none 0 0, .int .i64 0, .slice none 0 0, .slice none 0 0]
                have hl10 := hS.size
                have hT := hS.trans (hq10.mono hS.size)
                obtain ⟨z10, hy⟩ : ∃ x, z9.alloc (.cells #[.int .i64 0, .int .i64 0, .int .i64 0, .slice none 0 0, .int .i64 0, .slice none 0 0, .slice none 0 0] 26) = x := ⟨_, rfl⟩
                rw [hy] at hT oh os ol so oB kq ⊢
                obtain ⟨q, hbq⟩ : ∃ p, z9.heap.size = p := ⟨_, rfl⟩
                rw [hbq] at kq hl10 ⊢
                clear hy hbq hq10
                have hSn := hT
                clear hS
                refine Onward.on hSn (fun hS => ?_)
                try dsimp only at hS
                clear hSn
                try simp only [Act.put, List.getElem_toArray, List.getElem_cons_succ, List.getElem_cons_zero, List.setIfInBounds_toArray, List.set_cons_zero, List.set_cons_succ]
                refine AnyG.one (i := 11) (by as_aux_lemma => kernel_rfl) rfl rfl ?_
                obtain ⟨x0, x1, x2, x3, x4, x5, x6, xf, xz⟩ := kq.seven
                have hS0 := hS
                go_simp
                clear x0 x1 x2 x3 x4 x5 x6 xf xz
                refine Onward.last rfl ?_
                try simp only [Act.put, List.getElem_toArray, List.getElem_cons_succ, List.getElem_cons_zero, List.setIfInBounds_toArray, List.set_cons_zero, List.set_cons_succ]
                refine AnyG.one (i := 12) (by as_aux_lemma => kernel_rfl) rfl rfl ?_
                go_simp
                refine Onward.last rfl ?_
                try simp only [Act.put, List.getElem_toArray, List.getElem_cons_succ, List.getElem_cons_zero, List.setIfInBounds_toArray, List.set_cons_zero, List.set_cons_succ]
                refine AnyG.done (by as_aux_lemma => kernel_rfl) ?_ _
                go_simp
                have fA := (((((((kq.set_ 0 (.int .i64 v.li)).set_ 1 (.int .i64 v.un)).set_ 2 (.int .i64 v.tr)).set_ 3 (.slice HA p.hn hc)).set_ 4 (.int .i64 v.le)).set_ 5 (.slice SA p.sn sc)).set_ 6 (.slice LA p.ln lc))
                simp only [List.setIfInBounds_toArray, List.set_cons_zero, List.set_cons_succ] at fA
                have fG := (grownF_trans (grownF_trans (grownF_trans (grownF_trans (grownF_trans (grownF_trans (grown_set z10 q 0 (.int .i64 v.li)) (grown_set _ q 1 (.int .i64 v.un))) (grown_set _ q 2 (.int .i64 v.tr))) (grown_set _ q 3 (.slice HA p.hn hc))) (grown_set _ q 4 (.int .i64 v.le))) (grown_set _ q 5 (.slice SA p.sn sc))) (grown_set _ q 6 (.slice LA p.ln lc)))
                obtain ⟨Z, hZ⟩ : ∃ Z, (((((((z10.setCell ⟨q, 0, none⟩ (.int .i64 v.li)).setCell ⟨q, 1, none⟩ (.int .i64 v.un)).setCell ⟨q, 2, none⟩ (.int .i64 v.tr)).setCell ⟨q, 3, none⟩ (.slice HA p.hn hc)).setCell ⟨q, 4, none⟩ (.int .i64 v.le)).setCell ⟨q, 5, none⟩ (.slice SA p.sn sc)).setCell ⟨q, 6, none⟩ (.slice LA p.ln lc)) = Z := ⟨_, rfl⟩
                rw [hZ] at fA fG ⊢
                clear hZ
                replace oh := oh.kept fG (.inr fun e => own_bx oh kq (by decide) e.symm)
                replace os := os.kept fG (.inr fun e => own_bx os kq (by decide) e.symm)
                replace ol := ol.kept fG (.inr fun e => own_bx ol kq (by decide) e.symm)
                replace so := so.kept fG fun v n xs o => .inr fun e => own_bx o kq (by decide) e.symm
                replace oB := oB.kept fG (.inr fun e => own_bx oB kq (by decide) e.symm)
                have hBz := hS0.grown fG hS0.size (fun k e => by cases e; omega)
                have hVo := voy_own HO.out.hl HO.out.sl' HO.out.ll oh os so ol
                have hSB := own_ins oB HO.out.sl
                go_wp2_with fail
                go_meet
                exact ⟨q, HA, hc, SA, sc, LA, lc, B, d, rfl, rfl, fA, hVo, hSB, hBz⟩
              · refine ⟨_, rfl, rfl, ?_⟩
                go_simp
                have hq10 := bel1 z4 (.cells #[.int .i64 0, .int .i64 0, .int .i64 0, .slice none 0 0, .int .i64 0, .slice none 0 0, .slice none 0 0] 26)
                replace oh := own_bel oh hq10
                replace os := own_bel os hq10
                replace ol := own_bel ol hq10
                replace so := so.bel hq10
                have kq := Bx.new z4 26 #[.int .i64 0, .int .i64 0, .int .i64 0, .slice none 0 0, .int .i64 0, .slice none 0 0, .slice none 0 0]
                have hl10 := hS.size
                have hT := hS.trans (hq10.mono hS.size)
                obtain ⟨z10, hy⟩ : ∃ x, z4.alloc (.cells #[.int .i64 0, .int .i64 0, .int .i64 0, .slice none 0 0, .int .i64 0, .slice none 0 0, .slice none 0 0] 26) = x := ⟨_, rfl⟩
                rw [hy] at hT oh os ol so kq ⊢
                obtain ⟨q, hbq⟩ : ∃ p, z4.heap.size = p := ⟨_, rfl⟩
                rw [hbq] at kq hl10 ⊢
                clear hy hbq hq10
                have hSn := hT
                clear hS
                refine Onward.on hSn (fun hS => ?_)
                try dsimp only at hS
                clear hSn
                try simp only [Act.put, List.getElem_toArray, List.getElem_cons_succ, List.getElem_cons_zero, List.setIfInBounds_toArray, List.set_cons_zero, List.set_cons_succ]
                refine AnyG.one (i := 9) (by as_aux_lemma => kernel_rfl) rfl rfl ?_
                go_simp
                refine (ints20_any A n c s _ (by have := HO.out.n20; omega) HO.out.sl (hPU.call hS).hS).mono ?_
                rintro e9 z9 ⟨⟨B, d, rfl, oB⟩, hq9⟩
                replace kq := kq.call hq9
                replace oh := own_bel oh hq9
                replace os := own_bel os hq9
                replace ol := own_bel ol hq9
                replace so := so.bel hq9
                have hSn := (hS.trans (hq9.mono hS.size))
                clear hS
                refine Onward.on hSn (fun hS => ?_)
                try dsimp only at hS
                clear hSn
                try simp only [Act.put, List.getElem_toArray, List.getElem_cons_succ, List.getElem_cons_zero, List.setIfInBounds_toArray, List.set_cons_zero, List.set_cons_succ]
                refine AnyG.one (i := 11) (by as_aux_lemma => kernel_rfl) rfl rfl ?_
                obtain ⟨x0, x1, x2, x3, x4, x5, x6, xf, xz⟩ := kq.seven
                have hS0 := hS
                go_simp
                clear x0 x1 x2 x3 x4 x5 x6 xf xz
                refine Onward.last rfl ?_
                try simp only [Act.put, List.getElem_toArray, List.getElem_cons_succ, List.getElem_cons_zero, List.setIfInBounds_toArray, List.set_cons_zero, List.set_cons_succ]
                refine AnyG.one (i := 12) (by as_aux_lemma => kernel_rfl) rfl rfl ?_
                go_simp
                refine Onward.last rfl ?_
                try simp only [Act.put, List.getElem_toArray, List.getElem_cons_succ, List.getElem_cons_zero, List.setIfInBounds_toArray, List.set_cons_zero, List.set_cons_succ]
                refine AnyG.done (by as_aux_lemma => kernel_rfl) ?_ _
                go_simp
                have fA := (((((((kq.set_ 0 (.int .i64 v.li)).set_ 1 (.int .i64 v.un)).set_ 2 (.int .i64 v.tr)).set_ 3 (.slice HA p.hn hc)).set_ 4 (.int .i64 v.le)).set_ 5 (.slice SA p.sn sc)).set_ 6 (.slice LA p.ln lc))
                simp only [List.setIfInBounds_toArray, List.set_cons_zero, List.set_cons_succ] at fA
                have fG := (grownF_trans (grownF_trans (grownF_trans (grownF_trans (grownF_trans (grownF_trans (grown_set z9 q 0 (.int .i64 v.li)) (grown_set _ q 1 (.int .i64 v.un))) (grown_set _ q 2 (.int .i64 v.tr))) (grown_set _ q 3 (.slice HA p.hn hc))) (grown_set _ q 4 (.int .i64 v.le))) (grown_set _ q 5 (.slice SA p.sn sc))) (grown_set _ q 6 (.slice LA p.ln lc)))
                obtain ⟨Z, hZ⟩ : ∃ Z, (((((((z9.setCell ⟨q, 0, none⟩ (.int .i64 v.li)).setCell ⟨q, 1, none⟩ (.int .i64 v.un)).setCell ⟨q, 2, none⟩ (.int .i64 v.tr)).setCell ⟨q, 3, none⟩ (.slice HA p.hn hc)).setCell ⟨q, 4, none⟩ (.int .i64 v.le)).setCell ⟨q, 5, none⟩ (.slice SA p.sn sc)).setCell ⟨q, 6, none⟩ (.slice LA p.ln lc)) = Z := ⟨_, rfl⟩
                rw [hZ] at fA fG ⊢
                clear hZ
                replace oh := oh.kept fG (.inr fun e => own_bx oh kq (by decide) e.symm)
                replace os := os.kept fG (.inr fun e => own_bx os kq (by decide) e.symm)
                replace ol := ol.kept fG (.inr fun e => own_bx ol kq (by decide) e.symm)
                replace so := so.kept fG fun v n xs o => .inr fun e => own_bx o kq (by decide) e.symm
                replace oB := oB.kept fG (.inr fun e => own_bx oB kq (by decide) e.symm)
                have hBz := hS0.grown fG hS0.size (fun k e => by cases e; omega)
                have hVo := voy_own HO.out.hl HO.out.sl' HO.out.ll oh os so ol
                have hSB := own_ins oB HO.out.sl
                go_wp2_with fail
                go_meet
                exact ⟨q, HA, hc, SA, sc, LA, lc, B, d, rfl, rfl, fA, hVo, hSB, hBz⟩
            · refine ⟨_, rfl, rfl, ?_⟩
              go_simp
              have hq10 := bel1 y0 (.cells #[.int .i64 0, .int .i64 0, .int .i64 0, .slice none 0 0, .int .i64 0, .slice none 0 0, .slice none 0 0] 26)
              have kq := Bx.new y0 26 #[.int .i64 0, .int .i64 0, .int .i64 0, .slice none 0 0, .int .i64 0, .slice none 0 0, .slice none 0 0]
              have hl10 := hS.size
              have hT := hS.trans (hq10.mono hS.size)
              obtain ⟨z10, hy⟩ : ∃ x, y0.alloc (.cells #[.int .i64 0, .int .i64 0, .int .i64 0, .slice none 0 0, .int .i64 0, .slice none 0 0, .slice none 0 0] 26) = x := ⟨_, rfl⟩
              rw [hy] at hT kq ⊢
              obtain ⟨q, hbq⟩ : ∃ p, y0.heap.size = p := ⟨_, rfl⟩
              rw [hbq] at kq hl10 ⊢
              clear hy hbq hq10
              have hSn := hT
              clear hS
              refine Onward.on hSn (fun hS => ?_)
              try dsimp only at hS
              clear hSn
              try simp only [Act.put, List.getElem_toArray, List.getElem_cons_succ, List.getElem_cons_zero, List.setIfInBounds_toArray, List.set_cons_zero, List.set_cons_succ]
              refine AnyG.one (i := 4) (by as_aux_lemma => kernel_rfl) rfl rfl ?_
              go_simp
              refine (copyVoyage_gen v p _ HO.out.slim (hPU.call hS).hV).mono ?_
              rintro e4 z4 ⟨HA, hc, SA, sc, LA, lc, rs, rfl, oh, os, so, -, ol, hq4⟩
              replace kq := kq.call hq4
              have hSn := (hS.trans (hq4.mono hS.size))
              clear hS
              refine Onward.on hSn (fun hS => ?_)
              try dsimp only at hS
              clear hSn
              try simp only [Act.put, List.getElem_toArray, List.getElem_cons_succ, List.getElem_cons_zero, List.setIfInBounds_toArray, List.set_cons_zero, List.set_cons_succ]
              refine AnyG.one (i := 9) (by as_aux_lemma => kernel_rfl) rfl rfl ?_
              go_simp
              refine (ints20_any A n c s _ (by have := HO.out.n20; omega) HO.out.sl (hPU.call hS).hS).mono ?_
              rintro e9 z9 ⟨⟨B, d, rfl, oB⟩, hq9⟩
              replace kq := kq.call hq9
              replace oh := own_bel oh hq9
              replace os := own_bel os hq9
              replace ol := own_bel ol hq9
              replace so := so.bel hq9
              have hSn := (hS.trans (hq9.mono hS.size))
              clear hS
              refine Onward.on hSn (fun hS => ?_)
              try dsimp only at hS
              clear hSn
              try simp only [Act.put, List.getElem_toArray, List.getElem_cons_succ, List.getElem_cons_zero, List.setIfInBounds_toArray, List.set_cons_zero, List.set_cons_succ]
              refine AnyG.one (i := 11) (by as_aux_lemma => kernel_rfl) rfl rfl ?_
              obtain ⟨x0, x1, x2, x3, x4, x5, x6, xf, xz⟩ := kq.seven
              have hS0 := hS
              go_simp
              clear x0 x1 x2 x3 x4 x5 x6 xf xz
              refine Onward.last rfl ?_
              try simp only [Act.put, List.getElem_toArray, List.getElem_cons_succ, List.getElem_cons_zero, List.setIfInBounds_toArray, List.set_cons_zero, List.set_cons_succ]
              refine AnyG.one (i := 12) (by as_aux_lemma => kernel_rfl) rfl rfl ?_
              go_simp
              refine Onward.last rfl ?_
              try simp only [Act.put, List.getElem_toArray, List.getElem_cons_succ, List.getElem_cons_zero, List.setIfInBounds_toArray, List.set_cons_zero, List.set_cons_succ]
              refine AnyG.done (by as_aux_lemma => kernel_rfl) ?_ _
              go_simp
              have fA := (((((((kq.set_ 0 (.int .i64 v.li)).set_ 1 (.int .i64 v.un)).set_ 2 (.int .i64 v.tr)).set_ 3 (.slice HA p.hn hc)).set_ 4 (.int .i64 v.le)).set_ 5 (.slice SA p.sn sc)).set_ 6 (.slice LA p.ln lc))
              simp only [List.setIfInBounds_toArray, List.set_cons_zero, List.set_cons_succ] at fA
              have fG := (grownF_trans (grownF_trans (grownF_trans (grownF_trans (grownF_trans (grownF_trans (grown_set z9 q 0 (.int .i64 v.li)) (grown_set _ q 1 (.int .i64 v.un))) (grown_set _ q 2 (.int .i64 v.tr))) (grown_set _ q 3 (.slice HA p.hn hc))) (grown_set _ q 4 (.int .i64 v.le))) (grown_set _ q 5 (.slice SA p.sn sc))) (grown_set _ q 6 (.slice LA p.ln lc)))
              obtain ⟨Z, hZ⟩ : ∃ Z, (((((((z9.setCell ⟨q, 0, none⟩ (.int .i64 v.li)).setCell ⟨q, 1, none⟩ (.int .i64 v.un)).setCell ⟨q, 2, none⟩ (.int .i64 v.tr)).setCell ⟨q, 3, none⟩ (.slice HA p.hn hc)).setCell ⟨q, 4, none⟩ (.int .i64 v.le)).setCell ⟨q, 5, none⟩ (.slice SA p.sn sc)).setCell ⟨q, 6, none⟩ (.slice LA p.ln lc)) = Z := ⟨_, rfl⟩
              rw [hZ] at fA fG ⊢
              clear hZ
              replace oh := oh.kept fG (.inr fun e => own_bx oh kq (by decide) e.symm)
              replace os := os.kept fG (.inr fun e => own_bx os kq (by decide) e.symm)
              replace ol := ol.kept fG (.inr fun e => own_bx ol kq (by decide) e.symm)
              replace so := so.kept fG fun v n xs o => .inr fun e => own_bx o kq (by decide) e.symm
              replace oB := oB.kept fG (.inr fun e => own_bx oB kq (by decide) e.symm)
              have hBz := hS0.grown fG hS0.size (fun k e => by cases e; omega)
              have hVo := voy_own HO.out.hl HO.out.sl' HO.out.ll oh os so ol
              have hSB := own_ins oB HO.out.sl
              go_wp2_with fail
              go_meet
              exact ⟨q, HA, hc, SA, sc, LA, lc, B, d, rfl, rfl, fA, hVo, hSB, hBz⟩
          case rest =>
            obtain ⟨q, HA, hc, SA, sc, LA, lc, B, d, rfl, rfl, kq, hVo, hSB, hBU⟩ := hcut
            replace hBW := hBW.trans (hBU.mono hBW.size)
            replace hPU := hPU.call hBU
            clear hBU
            obtain ⟨U, hU⟩ : ∃ U, U = wc := ⟨_, rfl⟩
            subst hU
            obtain ⟨vd, hvd⟩ : ∃ x, vR v s = x := ⟨_, rfl⟩
            obtain ⟨E, hE⟩ : ∃ x, ckSt v s = x := ⟨_, rfl⟩
            obtain ⟨oo, hoo⟩ : ∃ x, oR v s = x := ⟨_, rfl⟩
            have hol : oo.length ≤ 20 := by rw [← hoo]; exact oR_len HO.out.slim.s20
            have HVD := Lib.hid hvd
            have HE := Lib.hid hE
            have HOO := Lib.hid hoo
            clear hvd hE hoo
            go_upto_region 10 with fail
            go_cut [14, 15, 16] from 43 to 110 (fun va vb vc x => ∃ (X : Option Addr) (m d : Nat), va = .int .i64 vd ∧ vb = .slice X m d ∧ vc = .int .i64 E ∧ Sl x x.heap.size 2 X (gnr oo) ∧ Hid (oo.length = m) ∧ Below U.heap.size U x)
            case first =>
              obtain ⟨x0, x1, x2, x3, x4, x5, x6, xf, xz⟩ := kq.seven
              go_wp2_with (first
                | (go_at_call 33; refine (sailP_any v ⟨HA, p.hn, hc, SA, p.sn, sc, LA, p.ln, lc⟩ B n d s _ HO.out.fitq HO.out.lf hVo hSB HO.out.sl (by have := HO.out.n20; omega)).mono ?_; rintro e z1 ⟨⟨XA, m1, d1, rfl, o1, l1⟩, hq1⟩; rw [HVD.out, HE.out]; rw [HOO.out] at o1 l1)
                | fail)
              clear x0 x1 x2 x3 x4 x5 x6 xf xz
              go_meet
              exact ⟨XA, m1, d1, rfl, rfl, rfl, o1, l1, hq1⟩
            case rest =>
              obtain ⟨XA, m1, d1, rfl, rfl, rfl, o1, l1, hBU⟩ := hcut
              replace hBW := hBW.trans (hBU.mono hBW.size)
              replace hPU := hPU.call hBU
              replace kq := kq.call hBU
              replace hVo := hVo.call hBU
              replace hSB := (hSB.below hBU).more hBU.size
              clear hBU
              obtain ⟨U, hU⟩ : ∃ U, U = wc := ⟨_, rfl⟩
              subst hU
              go_upto_region 11 with fail
              go_cut [17, 18, 19] from 43 to 110 (fun va vb vc x => ∃ (X : Option Addr) (m d : Nat), va = .int .i64 vd ∧ vb = .slice X m d ∧ vc = .int .i64 E ∧ Sl x x.heap.size 2 X (gnr oo) ∧ Hid (oo.length = m) ∧ Below U.heap.size U x)
              case first =>
                refine AnyG.startC (by as_aux_lemma => kernel_rfl) ?_
                refine AnyG.takeP (i := 0) (v := ?_) rfl (by as_aux_lemma => kernel_rfl) (fun _ _ _ h => h) rfl ?_ ?_
                rotate_left
                · (intro w'; go_simp; try with_reducible rfl)
                try simp only [Act.put, List.getElem_toArray, List.getElem_cons_succ, List.getElem_cons_zero, List.setIfInBounds_toArray, List.set_cons_zero, List.set_cons_succ]
                refine AnyG.takeP (i := 1) (v := ?_) rfl (by as_aux_lemma => kernel_rfl) (fun _ _ _ h => h) rfl ?_ ?_
                rotate_left
                · (intro w'; go_simp; try with_reducible rfl)
                try simp only [Act.put, List.getElem_toArray, List.getElem_cons_succ, List.getElem_cons_zero, List.setIfInBounds_toArray, List.set_cons_zero, List.set_cons_succ]
                refine AnyG.takeP (i := 2) (v := ?_) rfl (by as_aux_lemma => kernel_rfl) (fun _ _ _ h => h) rfl ?_ ?_
                rotate_left
                · (intro w'; go_simp; try with_reducible rfl)
                try simp only [Act.put, List.getElem_toArray, List.getElem_cons_succ, List.getElem_cons_zero, List.setIfInBounds_toArray, List.set_cons_zero, List.set_cons_succ]
                refine AnyG.takeP (i := 4) (v := ?_) rfl (by as_aux_lemma => kernel_rfl) (fun _ _ _ h => h) rfl ?_ ?_
                rotate_left
                · (intro w'; go_simp; try with_reducible rfl)
                try simp only [Act.put, List.getElem_toArray, List.getElem_cons_succ, List.getElem_cons_zero, List.setIfInBounds_toArray, List.set_cons_zero, List.set_cons_succ]
                refine AnyG.takeP (i := 5) (v := ?_) rfl (by as_aux_lemma => kernel_rfl) (fun _ _ _ h => h) rfl ?_ ?_
                rotate_left
                · (intro w'; go_simp; try with_reducible rfl)
                try simp only [Act.put, List.getElem_toArray, List.getElem_cons_succ, List.getElem_cons_zero, List.setIfInBounds_toArray, List.set_cons_zero, List.set_cons_succ]
                refine AnyG.takeP (i := 6) (v := ?_) rfl (by as_aux_lemma => kernel_rfl) (fun _ _ _ h => h) rfl ?_ ?_
                rotate_left
                · (intro w'; go_simp; try with_reducible rfl)
                try simp only [Act.put, List.getElem_toArray, List.getElem_cons_succ, List.getElem_cons_zero, List.setIfInBounds_toArray, List.set_cons_zero, List.set_cons_succ]
                refine AnyG.enter (fun w' : World => Below U.heap.size U w') (fun i => i != 15) ?_
                have hS : (fun w' : World => Below U.heap.size U w') (World.drew _) := (Below.refl _ _).drew
                refine AnyG.takeC (i := 3) (v := ?_) rfl (by as_aux_lemma => kernel_rfl) (fun _ _ _ h => h) rfl ?_ hS ?_
                rotate_left
                · (intro w' hSw; (try dsimp only at hSw); have hp := hPU.call hSw; have c0 := hp.c0; have c1 := hp.c1; have c2 := hp.c2; have c3 := hp.c3; have c4 := hp.c4; have c5 := hp.c5; have c6 := hp.c6; go_simp; try with_reducible rfl)
                try simp only [Act.put, List.getElem_toArray, List.getElem_cons_succ, List.getElem_cons_zero, List.setIfInBounds_toArray, List.set_cons_zero, List.set_cons_succ]
                refine AnyG.takeC (i := 7) (v := ?_) rfl (by as_aux_lemma => kernel_rfl) (fun _ _ _ h => h) rfl ?_ hS ?_
                rotate_left
                · (intro w' hSw; (try dsimp only at hSw); have b0 := (hPU.call hSw).b0; go_simp; try with_reducible rfl)
                try simp only [Act.put, List.getElem_toArray, List.getElem_cons_succ, List.getElem_cons_zero, List.setIfInBounds_toArray, List.set_cons_zero, List.set_cons_succ]
                refine AnyG.one (i := 8) (by as_aux_lemma => kernel_rfl) rfl rfl ?_
                go_simp
                refine (sailR_any v p A n c s _ HO.out.fit HO.out.lf (hPU.call hS).hV (hPU.call hS).hS HO.out.sl (by have := HO.out.n20; omega)).mono ?_
                rintro e8 z8 ⟨⟨X2, m2, d2, rfl, o2, l2⟩, hq8⟩
                rw [HVD.out, HE.out]
                rw [HOO.out] at o2 l2
                refine Onward.on (hS.trans (hq8.mono hS.size)) (fun hS2 => ?_)
                clear hS
                have hS := hS2
                clear hS2
                try simp only [Act.put, List.getElem_toArray, List.getElem_cons_succ, List.getElem_cons_zero, List.setIfInBounds_toArray, List.set_cons_zero, List.set_cons_succ]
                refine AnyG.takeC (i := 9) (v := ?_) rfl (by as_aux_lemma => kernel_rfl) (fun _ _ _ h => h) rfl ?_ hS ?_
                rotate_left
                · (intro w' hSw; (try dsimp only at hSw); go_simp; try with_reducible rfl)
                try simp only [Act.put, List.getElem_toArray, List.getElem_cons_succ, List.getElem_cons_zero, List.setIfInBounds_toArray, List.set_cons_zero, List.set_cons_succ]
                refine AnyG.takeC (i := 10) (v := ?_) rfl (by as_aux_lemma => kernel_rfl) (fun _ _ _ h => h) rfl ?_ hS ?_
                rotate_left
                · (intro w' hSw; (try dsimp only at hSw); go_simp; try with_reducible rfl)
                try simp only [Act.put, List.getElem_toArray, List.getElem_cons_succ, List.getElem_cons_zero, List.setIfInBounds_toArray, List.set_cons_zero, List.set_cons_succ]
                refine AnyG.takeC (i := 11) (v := ?_) rfl (by as_aux_lemma => kernel_rfl) (fun _ _ _ h => h) rfl ?_ hS ?_
                rotate_left
                · (intro w' hSw; (try dsimp only at hSw); go_simp; try with_reducible rfl)
                try simp only [Act.put, List.getElem_toArray, List.getElem_cons_succ, List.getElem_cons_zero, List.setIfInBounds_toArray, List.set_cons_zero, List.set_cons_succ]
                refine AnyG.takeC (i := 12) (v := ?_) rfl (by as_aux_lemma => kernel_rfl) (fun _ _ _ h => h) rfl ?_ hS ?_
                rotate_left
                · (intro w' hSw; (try dsimp only at hSw); go_simp; try with_reducible rfl)
                try simp only [Act.put, List.getElem_toArray, List.getElem_cons_succ, List.getElem_cons_zero, List.setIfInBounds_toArray, List.set_cons_zero, List.set_cons_succ]
                refine AnyG.one (i := 13) (by as_aux_lemma => kernel_rfl) rfl rfl ?_
                go_simp
                refine Onward.on hS (fun hS2 => ?_)
                clear hS
                have hS := hS2
                clear hS2
                try simp only [Act.put, List.getElem_toArray, List.getElem_cons_succ, List.getElem_cons_zero, List.setIfInBounds_toArray, List.set_cons_zero, List.set_cons_succ]
                refine AnyG.one (i := 14) (by as_aux_lemma => kernel_rfl) rfl rfl ?_
                go_simp
                refine Onward.on hS (fun hS2 => ?_)
                clear hS
                have hS := hS2
                clear hS2
                try simp only [Act.put, List.getElem_toArray, List.getElem_cons_succ, List.getElem_cons_zero, List.setIfInBounds_toArray, List.set_cons_zero, List.set_cons_succ]
                refine AnyG.one (i := 15) (by as_aux_lemma => kernel_rfl) rfl rfl ?_
                go_simp
                refine Onward.last rfl ?_
                try simp only [Act.put, List.getElem_toArray, List.getElem_cons_succ, List.getElem_cons_zero, List.setIfInBounds_toArray, List.set_cons_zero, List.set_cons_succ]
                refine AnyG.done (by as_aux_lemma => kernel_rfl) ?_ _
                go_simp
                go_wp2_with fail
                go_meet
                exact ⟨X2, m2, d2, rfl, rfl, rfl, o2, l2, hS⟩
              case rest =>
                obtain ⟨XB, m2, d2, rfl, rfl, rfl, o2, l2, hBU⟩ := hcut
                replace hBW := hBW.trans (hBU.mono hBW.size)
                replace hPU := hPU.call hBU
                replace kq := kq.call hBU
                replace hVo := hVo.call hBU
                replace hSB := (hSB.below hBU).more hBU.size
                replace o1 := (o1.below hBU).more hBU.size
                clear hBU
                obtain ⟨U, hU⟩ : ∃ U, U = wc := ⟨_, rfl⟩
                subst hU
                go_wp2_with fail
                as_aux_lemma =>
                  refine AnyG.startC (by as_aux_lemma => kernel_rfl) ?_
                  refine AnyG.takeP (i := 0) (v := ?_) rfl (by as_aux_lemma => kernel_rfl) (fun _ _ _ h => h) rfl ?_ ?_
                  rotate_left
                  · (intro w'; go_simp; try with_reducible rfl)
                  try simp only [Act.put, List.getElem_toArray, List.getElem_cons_succ, List.getElem_cons_zero, List.setIfInBounds_toArray, List.set_cons_zero, List.set_cons_succ]
                  refine AnyG.takeP (i := 1) (v := ?_) rfl (by as_aux_lemma => kernel_rfl) (fun _ _ _ h => h) rfl ?_ ?_
                  rotate_left
                  · (intro w'; go_simp; try with_reducible rfl)
                  try simp only [Act.put, List.getElem_toArray, List.getElem_cons_succ, List.getElem_cons_zero, List.setIfInBounds_toArray, List.set_cons_zero, List.set_cons_succ]
                  refine AnyG.takeP (i := 2) (v := ?_) rfl (by as_aux_lemma => kernel_rfl) (fun _ _ _ h => h) rfl ?_ ?_
                  rotate_left
                  · (intro w'; go_simp; try with_reducible rfl)
                  try simp only [Act.put, List.getElem_toArray, List.getElem_cons_succ, List.getElem_cons_zero, List.setIfInBounds_toArray, List.set_cons_zero, List.set_cons_succ]
                  refine AnyG.takeP (i := 3) (v := ?_) rfl (by as_aux_lemma => kernel_rfl) (fun _ _ _ h => h) rfl ?_ ?_
                  rotate_left
                  · (intro w'; go_simp; try with_reducible rfl)
                  try simp only [Act.put, List.getElem_toArray, List.getElem_cons_succ, List.getElem_cons_zero, List.setIfInBounds_toArray, List.set_cons_zero, List.set_cons_succ]
                  refine AnyG.enter (fun w' : World => Below U.heap.size U w') (fun i => true) ?_
                  have hS : (fun w' : World => Below U.heap.size U w') (World.drew _) := (Below.refl _ _).drew
                  refine AnyG.takeGC (i := 4) (v := ?_) rfl (by as_aux_lemma => kernel_rfl) (fun _ _ _ h => h) (by first | (simp [Region.wanted, yielded]; done) | simp [Region.wanted, yielded, undef]) ?_ hS ?_
                  rotate_left
                  · (intro w' hSw; (try dsimp only at hSw); go_simp; try with_reducible rfl)
                  try simp only [Act.put, List.getElem_toArray, List.getElem_cons_succ, List.getElem_cons_zero, List.setIfInBounds_toArray, List.set_cons_zero, List.set_cons_succ]
                  refine AnyG.takeGC (i := 5) (v := ?_) rfl (by as_aux_lemma => kernel_rfl) (fun _ _ _ h => h) (by first | (simp [Region.wanted, yielded]; done) | simp [Region.wanted, yielded, undef]) ?_ hS ?_
                  rotate_left
                  · (intro w' hSw; (try dsimp only at hSw); go_simp; try with_reducible rfl)
                  try simp only [Act.put, List.getElem_toArray, List.getElem_cons_succ, List.getElem_cons_zero, List.setIfInBounds_toArray, List.set_cons_zero, List.set_cons_succ]
                  refine AnyG.takeGC (i := 6) (v := ?_) rfl (by as_aux_lemma => kernel_rfl) (fun _ _ _ h => h) (by first | (simp [Region.wanted, yielded]; done) | simp [Region.wanted, yielded, undef]) ?_ hS ?_
                  rotate_left
                  · (intro w' hSw; (try dsimp only at hSw); go_simp; try with_reducible rfl)
                  try simp only [Act.put, List.getElem_toArray, List.getElem_cons_succ, List.getElem_cons_zero, List.setIfInBounds_toArray, List.set_cons_zero, List.set_cons_succ]
                  refine AnyG.takeC (i := 7) (v := ?_) rfl (by as_aux_lemma => kernel_rfl) (fun _ _ _ h => h) rfl ?_ hS ?_
                  rotate_left
                  · (intro w' hSw; (try dsimp only at hSw); go_simp; try with_reducible rfl)
                  try simp only [Act.put, List.getElem_toArray, List.getElem_cons_succ, List.getElem_cons_zero, List.setIfInBounds_toArray, List.set_cons_zero, List.set_cons_succ]
                  refine AnyG.takeC (i := 8) (v := ?_) rfl (by as_aux_lemma => kernel_rfl) (fun _ _ _ h => h) rfl ?_ hS ?_
                  rotate_left
                  · (intro w' hSw; (try dsimp only at hSw); go_simp; try with_reducible rfl)
                  try simp only [Act.put, List.getElem_toArray, List.getElem_cons_succ, List.getElem_cons_zero, List.setIfInBounds_toArray, List.set_cons_zero, List.set_cons_succ]
                  refine AnyG.takeGC (i := 9) (v := ?_) rfl (by as_aux_lemma => kernel_rfl) (fun _ _ _ h => h) (by first | (simp [Region.wanted, yielded]; done) | simp [Region.wanted, yielded, undef]) ?_ hS ?_
                  rotate_left
                  · (intro w' hSw; (try dsimp only at hSw); go_simp; try with_reducible rfl)
                  try simp only [Act.put, List.getElem_toArray, List.getElem_cons_succ, List.getElem_cons_zero, List.setIfInBounds_toArray, List.set_cons_zero, List.set_cons_succ]
                  refine AnyG.takeGC (i := 10) (v := ?_) rfl (by as_aux_lemma => kernel_rfl) (fun _ _ _ h => h) (by first | (simp [Region.wanted, yielded]; done) | simp [Region.wanted, yielded, undef]) ?_ hS ?_
                  rotate_left
                  · (intro w' hSw; (try dsimp only at hSw); go_simp; try with_reducible rfl)
                  try simp only [Act.put, List.getElem_toArray, List.getElem_cons_succ, List.getElem_cons_zero, List.setIfInBounds_toArray, List.set_cons_zero, List.set_cons_succ]
                  refine AnyG.oneC (i := 11) (by as_aux_lemma => kernel_rfl) rfl (by first | (simp [Region.wanted, yielded]; done) | simp [Region.wanted, yielded, undef]) ?_
                  go_simp
                  refine (equalRanges_any XA m1 d1 XB m2 d2 oo oo _ (by have := l1.out; omega) (by have := l2.out; omega) l1.out l2.out ((o1.below hS).more hS.size) ((o2.below hS).more hS.size)).mono ?_
                  rintro e11 y11 ⟨rfl, hb11⟩
                  rw [show decide (oo = oo) = true by simp]
                  refine Onward.on (hS.trans (hb11.mono hS.size)) (fun hS2 => ?_)
                  clear hS
                  have hS := hS2
                  clear hS2
                  try simp only [Act.put, List.getElem_toArray, List.getElem_cons_succ, List.getElem_cons_zero, List.setIfInBounds_toArray, List.set_cons_zero, List.set_cons_succ]
                  refine AnyG.takeGC (i := 12) (v := ?_) rfl (by as_aux_lemma => kernel_rfl) (fun _ _ _ h => h) (by first | (simp [Region.wanted, yielded]; done) | simp [Region.wanted, yielded, undef]) ?_ hS ?_
                  rotate_left
                  · (intro w' hSw; (try dsimp only at hSw); go_simp; try with_reducible rfl)
                  try simp only [Act.put, List.getElem_toArray, List.getElem_cons_succ, List.getElem_cons_zero, List.setIfInBounds_toArray, List.set_cons_zero, List.set_cons_succ]
                  refine AnyG.takeC (i := 13) (v := ?_) rfl (by as_aux_lemma => kernel_rfl) (fun _ _ _ h => h) rfl ?_ hS ?_
                  rotate_left
                  · (intro w' hSw; (try dsimp only at hSw); go_simp; try with_reducible rfl)
                  try simp only [Act.put, List.getElem_toArray, List.getElem_cons_succ, List.getElem_cons_zero, List.setIfInBounds_toArray, List.set_cons_zero, List.set_cons_succ]
                  refine AnyG.takeC (i := 14) (v := ?_) rfl (by as_aux_lemma => kernel_rfl) (fun _ _ _ h => h) rfl ?_ hS ?_
                  rotate_left
                  · (intro w' hSw; (try dsimp only at hSw); go_simp; try with_reducible rfl)
                  try simp only [Act.put, List.getElem_toArray, List.getElem_cons_succ, List.getElem_cons_zero, List.setIfInBounds_toArray, List.set_cons_zero, List.set_cons_succ]
                  refine AnyG.takeGC (i := 15) (v := ?_) rfl (by as_aux_lemma => kernel_rfl) (fun _ _ _ h => h) (by first | (simp [Region.wanted, yielded]; done) | simp [Region.wanted, yielded, undef]) ?_ hS ?_
                  rotate_left
                  · (intro w' hSw; (try dsimp only at hSw); obtain ⟨x0, x1, x2, x3, x4, x5, x6, xf, xz⟩ := (kq.call hSw).seven; go_simp; try with_reducible rfl)
                  try simp only [Act.put, List.getElem_toArray, List.getElem_cons_succ, List.getElem_cons_zero, List.setIfInBounds_toArray, List.set_cons_zero, List.set_cons_succ]
                  refine AnyG.takeGC (i := 16) (v := ?_) rfl (by as_aux_lemma => kernel_rfl) (fun _ _ _ h => h) (by first | (simp [Region.wanted, yielded]; done) | simp [Region.wanted, yielded, undef]) ?_ hS ?_
                  rotate_left
                  · (intro w' hSw; (try dsimp only at hSw); go_simp; try with_reducible rfl)
                  try simp only [Act.put, List.getElem_toArray, List.getElem_cons_succ, List.getElem_cons_zero, List.setIfInBounds_toArray, List.set_cons_zero, List.set_cons_succ]
                  refine AnyG.takeGC (i := 17) (v := ?_) rfl (by as_aux_lemma => kernel_rfl) (fun _ _ _ h => h) (by first | (simp [Region.wanted, yielded]; done) | simp [Region.wanted, yielded, undef]) ?_ hS ?_
                  rotate_left
                  · (intro w' hSw; (try dsimp only at hSw); go_simp; try with_reducible rfl)
                  try simp only [Act.put, List.getElem_toArray, List.getElem_cons_succ, List.getElem_cons_zero, List.setIfInBounds_toArray, List.set_cons_zero, List.set_cons_succ]
                  refine AnyG.takeGC (i := 18) (v := ?_) rfl (by as_aux_lemma => kernel_rfl) (fun _ _ _ h => h) (by first | (simp [Region.wanted, yielded]; done) | simp [Region.wanted, yielded, undef]) ?_ hS ?_
                  rotate_left
                  · (intro w' hSw; (try dsimp only at hSw); go_simp; try with_reducible rfl)
                  try simp only [Act.put, List.getElem_toArray, List.getElem_cons_succ, List.getElem_cons_zero, List.setIfInBounds_toArray, List.set_cons_zero, List.set_cons_succ]
                  refine AnyG.takeGC (i := 19) (v := ?_) rfl (by as_aux_lemma => kernel_rfl) (fun _ _ _ h => h) (by first | (simp [Region.wanted, yielded]; done) | simp [Region.wanted, yielded, undef]) ?_ hS ?_
                  rotate_left
                  · (intro w' hSw; (try dsimp only at hSw); have hp := hPU.call hSw; have c0 := hp.c0; have c1 := hp.c1; have c2 := hp.c2; have c3 := hp.c3; have c4 := hp.c4; have c5 := hp.c5; have c6 := hp.c6; go_simp; try with_reducible rfl)
                  try simp only [Act.put, List.getElem_toArray, List.getElem_cons_succ, List.getElem_cons_zero, List.setIfInBounds_toArray, List.set_cons_zero, List.set_cons_succ]
                  refine AnyG.oneC (i := 20) (by as_aux_lemma => kernel_rfl) rfl (by first | (simp [Region.wanted, yielded]; done) | simp [Region.wanted, yielded, undef]) ?_
                  go_simp
                  refine (equalVoyages_same v HA p.hn hc SA p.sn sc LA p.ln lc p.HA p.hc p.SA p.sc p.LA p.lc _ HO.out.slim (hVo.call hS) (hPU.call hS).hV).mono ?_
                  rintro e5 y5 ⟨rfl, hb5⟩
                  refine Onward.on (hS.trans (hb5.mono hS.size)) (fun hS2 => ?_)
                  clear hS
                  have hS := hS2
                  clear hS2
                  try simp only [Act.put, List.getElem_toArray, List.getElem_cons_succ, List.getElem_cons_zero, List.setIfInBounds_toArray, List.set_cons_zero, List.set_cons_succ]
                  refine AnyG.takeGC (i := 21) (v := ?_) rfl (by as_aux_lemma => kernel_rfl) (fun _ _ _ h => h) (by first | (simp [Region.wanted, yielded]; done) | simp [Region.wanted, yielded, undef]) ?_ hS ?_
                  rotate_left
                  · (intro w' hSw; (try dsimp only at hSw); go_simp; try with_reducible rfl)
                  try simp only [Act.put, List.getElem_toArray, List.getElem_cons_succ, List.getElem_cons_zero, List.setIfInBounds_toArray, List.set_cons_zero, List.set_cons_succ]
                  refine AnyG.takeC (i := 22) (v := ?_) rfl (by as_aux_lemma => kernel_rfl) (fun _ _ _ h => h) rfl ?_ hS ?_
                  rotate_left
                  · (intro w' hSw; (try dsimp only at hSw); go_simp; try with_reducible rfl)
                  try simp only [Act.put, List.getElem_toArray, List.getElem_cons_succ, List.getElem_cons_zero, List.setIfInBounds_toArray, List.set_cons_zero, List.set_cons_succ]
                  refine AnyG.takeC (i := 23) (v := ?_) rfl (by as_aux_lemma => kernel_rfl) (fun _ _ _ h => h) rfl ?_ hS ?_
                  rotate_left
                  · (intro w' hSw; (try dsimp only at hSw); go_simp; try with_reducible rfl)
                  try simp only [Act.put, List.getElem_toArray, List.getElem_cons_succ, List.getElem_cons_zero, List.setIfInBounds_toArray, List.set_cons_zero, List.set_cons_succ]
                  refine AnyG.takeGC (i := 24) (v := ?_) rfl (by as_aux_lemma => kernel_rfl) (fun _ _ _ h => h) (by first | (simp [Region.wanted, yielded]; done) | simp [Region.wanted, yielded, undef]) ?_ hS ?_
                  rotate_left
                  · (intro w' hSw; (try dsimp only at hSw); go_simp; try with_reducible rfl)
                  try simp only [Act.put, List.getElem_toArray, List.getElem_cons_succ, List.getElem_cons_zero, List.setIfInBounds_toArray, List.set_cons_zero, List.set_cons_succ]
                  refine AnyG.takeGC (i := 25) (v := ?_) rfl (by as_aux_lemma => kernel_rfl) (fun _ _ _ h => h) (by first | (simp [Region.wanted, yielded]; done) | simp [Region.wanted, yielded, undef]) ?_ hS ?_
                  rotate_left
                  · (intro w' hSw; (try dsimp only at hSw); go_simp; try with_reducible rfl)
                  try simp only [Act.put, List.getElem_toArray, List.getElem_cons_succ, List.getElem_cons_zero, List.setIfInBounds_toArray, List.set_cons_zero, List.set_cons_succ]
                  refine AnyG.takeGC (i := 26) (v := ?_) rfl (by as_aux_lemma => kernel_rfl) (fun _ _ _ h => h) (by first | (simp [Region.wanted, yielded]; done) | simp [Region.wanted, yielded, undef]) ?_ hS ?_
                  rotate_left
                  · (intro w' hSw; (try dsimp only at hSw); go_simp; try with_reducible rfl)
                  try simp only [Act.put, List.getElem_toArray, List.getElem_cons_succ, List.getElem_cons_zero, List.setIfInBounds_toArray, List.set_cons_zero, List.set_cons_succ]
                  refine AnyG.takeGC (i := 27) (v := ?_) rfl (by as_aux_lemma => kernel_rfl) (fun _ _ _ h => h) (by first | (simp [Region.wanted, yielded]; done) | simp [Region.wanted, yielded, undef]) ?_ hS ?_
                  rotate_left
                  · (intro w' hSw; (try dsimp only at hSw); go_simp; try with_reducible rfl)
                  try simp only [Act.put, List.getElem_toArray, List.getElem_cons_succ, List.getElem_cons_zero, List.setIfInBounds_toArray, List.set_cons_zero, List.set_cons_succ]
                  refine AnyG.takeGC (i := 28) (v := ?_) rfl (by as_aux_lemma => kernel_rfl) (fun _ _ _ h => h) (by first | (simp [Region.wanted, yielded]; done) | simp [Region.wanted, yielded, undef]) ?_ hS ?_
                  rotate_left
                  · (intro w' hSw; (try dsimp only at hSw); have b0 := (hPU.call hSw).b0; go_simp; try with_reducible rfl)
                  try simp only [Act.put, List.getElem_toArray, List.getElem_cons_succ, List.getElem_cons_zero, List.setIfInBounds_toArray, List.set_cons_zero, List.set_cons_succ]
                  refine AnyG.oneC (i := 29) (by as_aux_lemma => kernel_rfl) rfl (by first | (simp [Region.wanted, yielded]; done) | simp [Region.wanted, yielded, undef]) ?_
                  go_simp
                  refine (equalInts_any B n d A n c s s _ (by have := HO.out.n20; omega) (by have := HO.out.n20; omega) HO.out.sl HO.out.sl ((hSB.below hS).more hS.size) (hPU.call hS).hS).mono ?_
                  rintro e13 y13 ⟨rfl, hb13⟩
                  rw [show decide (s = s) = true by simp]
                  refine Onward.on (hS.trans (hb13.mono hS.size)) (fun hS2 => ?_)
                  clear hS
                  have hS := hS2
                  clear hS2
                  try simp only [Act.put, List.getElem_toArray, List.getElem_cons_succ, List.getElem_cons_zero, List.setIfInBounds_toArray, List.set_cons_zero, List.set_cons_succ]
                  refine AnyG.takeGC (i := 30) (v := ?_) rfl (by as_aux_lemma => kernel_rfl) (fun _ _ _ h => h) (by first | (simp [Region.wanted, yielded]; done) | simp [Region.wanted, yielded, undef]) ?_ hS ?_
                  rotate_left
                  · (intro w' hSw; (try dsimp only at hSw); go_simp; try with_reducible rfl)
                  try simp only [Act.put, List.getElem_toArray, List.getElem_cons_succ, List.getElem_cons_zero, List.setIfInBounds_toArray, List.set_cons_zero, List.set_cons_succ]
                  refine AnyG.takeC (i := 31) (v := ?_) rfl (by as_aux_lemma => kernel_rfl) (fun _ _ _ h => h) rfl ?_ hS ?_
                  rotate_left
                  · (intro w' hSw; (try dsimp only at hSw); go_simp; try with_reducible rfl)
                  try simp only [Act.put, List.getElem_toArray, List.getElem_cons_succ, List.getElem_cons_zero, List.setIfInBounds_toArray, List.set_cons_zero, List.set_cons_succ]
                  refine AnyG.done (by as_aux_lemma => kernel_rfl) ?_ _
                  go_simp
                  go_wp2_with fail
                  exact ⟨⟨k + 1, by go_num, by omega, hBW.trans (hS.mono hBW.size)⟩, by simp [intOf]; omega⟩
        · obtain rfl : k = 2 := by omega
          go_wp2_with (first | (go_at_call 15; refine (awake_any _).mono ?_; rintro e z3 ⟨rfl, hq3⟩) | fail)
          go_ret
          exact ⟨rfl, BW.trans ((hBW.trans (hq3.mono hBW.size)).mono BW.size)⟩

end Go.Proofs.Ytfcpjkofbejleaa
