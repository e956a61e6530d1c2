/- ShipKnown: the run, levels. -/
import Derived.Test.YtdlohfglmagneaaDoorKnB
set_option linter.unusedSimpArgs false
set_option linter.unusedVariables false
namespace Go.Proofs.YtdlohfglmagneaaDoor
open Go Go.RowKit
set_option maxRecDepth 100000 in
set_option maxHeartbeats 16000000 in
def known_C (w : World) : (P : Prop) ×' (Later P → (known_B w).1) := by
  refine PSigma.mk ?P ?g
  case g =>
    intro hTail y1 bh1 b11 b21 bs1 bl1 y2 bh2 b12 b22 bs2 bl2 y3 bh3 b13 b23 bs3 bl3 y4 bh4 b14 b24 bs4 bl4 y5 bh5 b15 b25 bs5 bl5 jj0 q1 hq1l y10 Z j1 u23 u24 u25 u26 u27 u28 u29 u30 u31 u32 u33 u34 u35 u36 u37 u38 u39 u40 u41 u42 u43 u44 u45 u46 u47 u48 u49 u50 u51 u52 u53 j2 u54 u55 u56 u57 u58 u59 u60 u61 u62 u63 u64 u65 u66 u67 u68 u69 U u71 u72 u73 u74 u75 u76 qs qa qe X jj1 u0 u77 u78 u79 u80 u81 u82 u83 u84 u85 u86 u87 u88 u89 u90 u91 u92 u93 V HBW HK jj2 jj3 jj4 jj5 jj6
    have HF3 : Hid (Vp.Fit ⟨some ⟨bh3, 0, none⟩, 2, 2, some ⟨bs3, 0, none⟩, 2, 2, some ⟨bl3, 0, none⟩, 3, 3⟩) := Lib.hid ⟨by simp, by simp, by simp⟩
    have HL3 : Hid (LvFit tightV) := Lib.hid (fun s hs => by have : s.lv.length ≤ 6 := (show ∀ s ∈ tightV.ss, s.lv.length ≤ 6 by decide) s hs; omega)
    go_cut [9, 10, 11] from 94 to 102 (fun va vb vc x => ∃ q : Nat, va = .bool true ∧ vb = .pointer (some ⟨q, 0, none⟩) ∧ vc = .int .i64 0 ∧ Bx x q 29 #[.int .i64 0, .int .i64 60000] ∧ Below V.heap.size V x)
    case first =>
      refine AnyG.startC (by kernel_rfl) ?_
      refine AnyG.takeP (i := 1) (v := ?_) rfl (by kernel_rfl) (fun _ _ _ h => h) rfl ?_ ?_
      rotate_left
      · (intro w'; go_simp; try with_reducible rfl)
      try simp only [Act.put, List.getElem_toArray, List.getElem_cons_succ, List.getElem_cons_zero, List.setIfInBounds_toArray, List.set_cons_zero, List.set_cons_succ]
      refine AnyG.takeP (i := 2) (v := ?_) rfl (by kernel_rfl) (fun _ _ _ h => h) rfl ?_ ?_
      rotate_left
      · (intro w'; go_simp; try with_reducible rfl)
      try simp only [Act.put, List.getElem_toArray, List.getElem_cons_succ, List.getElem_cons_zero, List.setIfInBounds_toArray, List.set_cons_zero, List.set_cons_succ]
      refine AnyG.enter (fun w' : World => Below V.heap.size V w') (fun i => i != 12) ?_
      have hS : (fun w' : World => Below V.heap.size V w') (V.drew) := (Below.refl _ _).drew
      try dsimp only at hS
      obtain ⟨y0, hy0⟩ : ∃ y, V.drew = y := ⟨_, rfl⟩
      rw [hy0] at hS ⊢
      clear hy0
      refine AnyG.takeC (i := 3) (v := ?_) rfl (by kernel_rfl) (fun _ _ _ h => h) rfl ?_ hS ?_
      rotate_left
      · (intro w' hSw; (try dsimp only at hSw); have hr := (HK.out.call hSw).s0; have ca := hr.ca; go_simp; try with_reducible rfl)
      try simp only [Act.put, List.getElem_toArray, List.getElem_cons_succ, List.getElem_cons_zero, List.setIfInBounds_toArray, List.set_cons_zero, List.set_cons_succ]
      refine AnyG.all (rs := [0, 9]) (by kernel_rfl) (by simp) ?_
      intro ii hii
      simp only [List.mem_cons, List.not_mem_nil, or_false] at hii
      rcases hii with rfl | rfl
      · refine ⟨_, rfl, rfl, ?_⟩
        go_simp
        refine (voyage_any _).mono ?_
        rintro e0 z0 ⟨⟨p, hF, -, rfl, hV⟩, hq0⟩
        rw [vcs_def]
        have hSn := (hS.trans (hq0.mono hS.size))
        clear hS
        refine Onward.on hSn (fun hS => ?_)
        try dsimp only at hS
        clear hSn
        try simp only [Act.put, List.getElem_toArray, List.getElem_cons_succ, List.getElem_cons_zero, List.setIfInBounds_toArray, List.set_cons_zero, List.set_cons_succ]
        refine AnyG.all (rs := [4, 9]) (by kernel_rfl) (by simp) ?_
        intro ii hii
        simp only [List.mem_cons, List.not_mem_nil, or_false] at hii
        rcases hii with rfl | rfl
        · refine ⟨_, rfl, rfl, ?_⟩
          go_simp
          refine (level_any exV p (some ⟨qs, 0, none⟩) 3 3 [0, 1, -1] _ hF ex_lf hV (HK.out.call hS).s0.sl rfl (by omega)).mono ?_
          rintro e4 z4 ⟨rfl, hq4⟩
          rw [if_pos st0, lv0.1, lv0.2]
          dsimp only
          replace hV := hV.call hq4
          have hSn := (hS.trans (hq4.mono hS.size))
          clear hS
          refine Onward.on hSn (fun hS => ?_)
          try dsimp only at hS
          clear hSn
          try simp only [Act.put, List.getElem_toArray, List.getElem_cons_succ, List.getElem_cons_zero, List.setIfInBounds_toArray, List.set_cons_zero, List.set_cons_succ]
          refine AnyG.takeC (i := 5) (v := ?_) rfl (by kernel_rfl) (fun _ _ _ h => h) rfl ?_ hS ?_
          rotate_left
          · (intro w' hSw; (try dsimp only at hSw); go_simp; try with_reducible rfl)
          try simp only [Act.put, List.getElem_toArray, List.getElem_cons_succ, List.getElem_cons_zero, List.setIfInBounds_toArray, List.set_cons_zero, List.set_cons_succ]
          refine AnyG.takeC (i := 6) (v := ?_) rfl (by kernel_rfl) (fun _ _ _ h => h) rfl ?_ hS ?_
          rotate_left
          · (intro w' hSw; (try dsimp only at hSw); go_simp; try with_reducible rfl)
          try simp only [Act.put, List.getElem_toArray, List.getElem_cons_succ, List.getElem_cons_zero, List.setIfInBounds_toArray, List.set_cons_zero, List.set_cons_succ]
          refine AnyG.takeC (i := 7) (v := ?_) rfl (by kernel_rfl) (fun _ _ _ h => h) rfl ?_ hS ?_
          rotate_left
          · (intro w' hSw; (try dsimp only at hSw); go_simp; try with_reducible rfl)
          try simp only [Act.put, List.getElem_toArray, List.getElem_cons_succ, List.getElem_cons_zero, List.setIfInBounds_toArray, List.set_cons_zero, List.set_cons_succ]
          refine AnyG.takeC (i := 8) (v := ?_) rfl (by kernel_rfl) (fun _ _ _ h => h) rfl ?_ hS ?_
          rotate_left
          · (intro w' hSw; (try dsimp only at hSw); go_simp; try with_reducible rfl)
          try simp only [Act.put, List.getElem_toArray, List.getElem_cons_succ, List.getElem_cons_zero, List.setIfInBounds_toArray, List.set_cons_zero, List.set_cons_succ]
          refine AnyG.one (i := 9) (by kernel_rfl) rfl rfl ?_
          go_simp
          have hq9 := bel1 z4 (.cells #[.int .i64 0, .int .i64 0] 29)
          replace hV := hV.call hq9
          have kq := Bx.new z4 29 #[.int .i64 0, .int .i64 0]
          have hlq := hS.size
          have hT := hS.trans (hq9.mono hS.size)
          obtain ⟨z9, hy⟩ : ∃ x, z4.alloc (.cells #[.int .i64 0, .int .i64 0] 29) = x := ⟨_, rfl⟩
          rw [hy] at hT hV kq ⊢
          obtain ⟨q, hbq⟩ : ∃ p, z4.heap.size = p := ⟨_, rfl⟩
          rw [hbq] at kq hlq ⊢
          clear hy hbq hq9
          have hSn := hT
          clear hS
          refine Onward.on hSn (fun hS => ?_)
          try dsimp only at hS
          clear hSn
          try simp only [Act.put, List.getElem_toArray, List.getElem_cons_succ, List.getElem_cons_zero, List.setIfInBounds_toArray, List.set_cons_zero, List.set_cons_succ]
          refine AnyG.one (i := 10) (by kernel_rfl) rfl rfl ?_
          go_simp
          refine Onward.on hS (fun hS2 => ?_)
          clear hS2
          try simp only [Act.put, List.getElem_toArray, List.getElem_cons_succ, List.getElem_cons_zero, List.setIfInBounds_toArray, List.set_cons_zero, List.set_cons_succ]
          refine AnyG.one (i := 11) (by kernel_rfl) rfl rfl ?_
          obtain ⟨x0, x1, xf, xz⟩ := kq.two
          have hS0 := hS
          go_simp
          clear x0 x1 xf xz
          have hSn := ((hS.setCell (p := ⟨q, 0, none⟩) hlq (.int .i64 0)).setCell (p := ⟨q, 1, none⟩) hlq (.int .i64 60000))
          clear hS
          refine Onward.on hSn (fun hS => ?_)
          try dsimp only at hS
          clear hSn
          try simp only [Act.put, List.getElem_toArray, List.getElem_cons_succ, List.getElem_cons_zero, List.setIfInBounds_toArray, List.set_cons_zero, List.set_cons_succ]
          refine AnyG.one (i := 12) (by kernel_rfl) rfl rfl ?_
          go_simp
          refine Onward.last rfl ?_
          try simp only [Act.put, List.getElem_toArray, List.getElem_cons_succ, List.getElem_cons_zero, List.setIfInBounds_toArray, List.set_cons_zero, List.set_cons_succ]
          refine AnyG.done (by kernel_rfl) ?_ _
          have f13 := (kq.set_ 0 (.int .i64 0)).set_ 1 (.int .i64 60000)
          simp only [List.setIfInBounds_toArray, List.set_cons_zero, List.set_cons_succ] at f13
          have hBz := (hS0.setCell (p := ⟨q, 0, none⟩) hlq (.int .i64 0)).setCell (p := ⟨q, 1, none⟩) hlq (.int .i64 60000)
          go_simp
          go_wp2_with fail
          go_meet
          exact ⟨q, rfl, rfl, rfl, f13, hBz⟩
        · refine ⟨_, rfl, rfl, ?_⟩
          go_simp
          have hq9 := bel1 z0 (.cells #[.int .i64 0, .int .i64 0] 29)
          replace hV := hV.call hq9
          have kq := Bx.new z0 29 #[.int .i64 0, .int .i64 0]
          have hlq := hS.size
          have hT := hS.trans (hq9.mono hS.size)
          obtain ⟨z9, hy⟩ : ∃ x, z0.alloc (.cells #[.int .i64 0, .int .i64 0] 29) = x := ⟨_, rfl⟩
          rw [hy] at hT hV kq ⊢
          obtain ⟨q, hbq⟩ : ∃ p, z0.heap.size = p := ⟨_, rfl⟩
          rw [hbq] at kq hlq ⊢
          clear hy hbq hq9
          have hSn := hT
          clear hS
          refine Onward.on hSn (fun hS => ?_)
          try dsimp only at hS
          clear hSn
          try simp only [Act.put, List.getElem_toArray, List.getElem_cons_succ, List.getElem_cons_zero, List.setIfInBounds_toArray, List.set_cons_zero, List.set_cons_succ]
          refine AnyG.one (i := 4) (by kernel_rfl) rfl rfl ?_
          go_simp
          refine (level_any exV p (some ⟨qs, 0, none⟩) 3 3 [0, 1, -1] _ hF ex_lf hV (HK.out.call hS).s0.sl rfl (by omega)).mono ?_
          rintro e4 z4 ⟨rfl, hq4⟩
          rw [if_pos st0, lv0.1, lv0.2]
          dsimp only
          replace kq := kq.call hq4
          replace hV := hV.call hq4
          have hSn := (hS.trans (hq4.mono hS.size))
          clear hS
          refine Onward.on hSn (fun hS => ?_)
          try dsimp only at hS
          clear hSn
          try simp only [Act.put, List.getElem_toArray, List.getElem_cons_succ, List.getElem_cons_zero, List.setIfInBounds_toArray, List.set_cons_zero, List.set_cons_succ]
          refine AnyG.takeC (i := 5) (v := ?_) rfl (by kernel_rfl) (fun _ _ _ h => h) rfl ?_ hS ?_
          rotate_left
          · (intro w' hSw; (try dsimp only at hSw); go_simp; try with_reducible rfl)
          try simp only [Act.put, List.getElem_toArray, List.getElem_cons_succ, List.getElem_cons_zero, List.setIfInBounds_toArray, List.set_cons_zero, List.set_cons_succ]
          refine AnyG.takeC (i := 6) (v := ?_) rfl (by kernel_rfl) (fun _ _ _ h => h) rfl ?_ hS ?_
          rotate_left
          · (intro w' hSw; (try dsimp only at hSw); go_simp; try with_reducible rfl)
          try simp only [Act.put, List.getElem_toArray, List.getElem_cons_succ, List.getElem_cons_zero, List.setIfInBounds_toArray, List.set_cons_zero, List.set_cons_succ]
          refine AnyG.takeC (i := 7) (v := ?_) rfl (by kernel_rfl) (fun _ _ _ h => h) rfl ?_ hS ?_
          rotate_left
          · (intro w' hSw; (try dsimp only at hSw); go_simp; try with_reducible rfl)
          try simp only [Act.put, List.getElem_toArray, List.getElem_cons_succ, List.getElem_cons_zero, List.setIfInBounds_toArray, List.set_cons_zero, List.set_cons_succ]
          refine AnyG.takeC (i := 8) (v := ?_) rfl (by kernel_rfl) (fun _ _ _ h => h) rfl ?_ hS ?_
          rotate_left
          · (intro w' hSw; (try dsimp only at hSw); go_simp; try with_reducible rfl)
          try simp only [Act.put, List.getElem_toArray, List.getElem_cons_succ, List.getElem_cons_zero, List.setIfInBounds_toArray, List.set_cons_zero, List.set_cons_succ]
          refine AnyG.one (i := 10) (by kernel_rfl) rfl rfl ?_
          go_simp
          refine Onward.on hS (fun hS2 => ?_)
          clear hS2
          try simp only [Act.put, List.getElem_toArray, List.getElem_cons_succ, List.getElem_cons_zero, List.setIfInBounds_toArray, List.set_cons_zero, List.set_cons_succ]
          refine AnyG.one (i := 11) (by kernel_rfl) rfl rfl ?_
          obtain ⟨x0, x1, xf, xz⟩ := kq.two
          have hS0 := hS
          go_simp
          clear x0 x1 xf xz
          have hSn := ((hS.setCell (p := ⟨q, 0, none⟩) hlq (.int .i64 0)).setCell (p := ⟨q, 1, none⟩) hlq (.int .i64 60000))
          clear hS
          refine Onward.on hSn (fun hS => ?_)
          try dsimp only at hS
          clear hSn
          try simp only [Act.put, List.getElem_toArray, List.getElem_cons_succ, List.getElem_cons_zero, List.setIfInBounds_toArray, List.set_cons_zero, List.set_cons_succ]
          refine AnyG.one (i := 12) (by kernel_rfl) rfl rfl ?_
          go_simp
          refine Onward.last rfl ?_
          try simp only [Act.put, List.getElem_toArray, List.getElem_cons_succ, List.getElem_cons_zero, List.setIfInBounds_toArray, List.set_cons_zero, List.set_cons_succ]
          refine AnyG.done (by kernel_rfl) ?_ _
          have f13 := (kq.set_ 0 (.int .i64 0)).set_ 1 (.int .i64 60000)
          simp only [List.setIfInBounds_toArray, List.set_cons_zero, List.set_cons_succ] at f13
          have hBz := (hS0.setCell (p := ⟨q, 0, none⟩) hlq (.int .i64 0)).setCell (p := ⟨q, 1, none⟩) hlq (.int .i64 60000)
          go_simp
          go_wp2_with fail
          go_meet
          exact ⟨q, rfl, rfl, rfl, f13, hBz⟩
      · refine ⟨_, rfl, rfl, ?_⟩
        go_simp
        have hq9 := bel1 y0 (.cells #[.int .i64 0, .int .i64 0] 29)
        have kq := Bx.new y0 29 #[.int .i64 0, .int .i64 0]
        have hlq := hS.size
        have hT := hS.trans (hq9.mono hS.size)
        obtain ⟨z9, hy⟩ : ∃ x, y0.alloc (.cells #[.int .i64 0, .int .i64 0] 29) = x := ⟨_, rfl⟩
        rw [hy] at hT kq ⊢
        obtain ⟨q, hbq⟩ : ∃ p, y0.heap.size = p := ⟨_, rfl⟩
        rw [hbq] at kq hlq ⊢
        clear hy hbq hq9
        have hSn := hT
        clear hS
        refine Onward.on hSn (fun hS => ?_)
        try dsimp only at hS
        clear hSn
        try simp only [Act.put, List.getElem_toArray, List.getElem_cons_succ, List.getElem_cons_zero, List.setIfInBounds_toArray, List.set_cons_zero, List.set_cons_succ]
        refine AnyG.one (i := 0) (by kernel_rfl) rfl rfl ?_
        go_simp
        refine (voyage_any _).mono ?_
        rintro e0 z0 ⟨⟨p, hF, -, rfl, hV⟩, hq0⟩
        rw [vcs_def]
        replace kq := kq.call hq0
        have hSn := (hS.trans (hq0.mono hS.size))
        clear hS
        refine Onward.on hSn (fun hS => ?_)
        try dsimp only at hS
        clear hSn
        try simp only [Act.put, List.getElem_toArray, List.getElem_cons_succ, List.getElem_cons_zero, List.setIfInBounds_toArray, List.set_cons_zero, List.set_cons_succ]
        refine AnyG.one (i := 4) (by kernel_rfl) rfl rfl ?_
        go_simp
        refine (level_any exV p (some ⟨qs, 0, none⟩) 3 3 [0, 1, -1] _ hF ex_lf hV (HK.out.call hS).s0.sl rfl (by omega)).mono ?_
        rintro e4 z4 ⟨rfl, hq4⟩
        rw [if_pos st0, lv0.1, lv0.2]
        dsimp only
        replace kq := kq.call hq4
        replace hV := hV.call hq4
        have hSn := (hS.trans (hq4.mono hS.size))
        clear hS
        refine Onward.on hSn (fun hS => ?_)
        try dsimp only at hS
        clear hSn
        try simp only [Act.put, List.getElem_toArray, List.getElem_cons_succ, List.getElem_cons_zero, List.setIfInBounds_toArray, List.set_cons_zero, List.set_cons_succ]
        refine AnyG.takeC (i := 5) (v := ?_) rfl (by kernel_rfl) (fun _ _ _ h => h) rfl ?_ hS ?_
        rotate_left
        · (intro w' hSw; (try dsimp only at hSw); go_simp; try with_reducible rfl)
        try simp only [Act.put, List.getElem_toArray, List.getElem_cons_succ, List.getElem_cons_zero, List.setIfInBounds_toArray, List.set_cons_zero, List.set_cons_succ]
        refine AnyG.takeC (i := 6) (v := ?_) rfl (by kernel_rfl) (fun _ _ _ h => h) rfl ?_ hS ?_
        rotate_left
        · (intro w' hSw; (try dsimp only at hSw); go_simp; try with_reducible rfl)
        try simp only [Act.put, List.getElem_toArray, List.getElem_cons_succ, List.getElem_cons_zero, List.setIfInBounds_toArray, List.set_cons_zero, List.set_cons_succ]
        refine AnyG.takeC (i := 7) (v := ?_) rfl (by kernel_rfl) (fun _ _ _ h => h) rfl ?_ hS ?_
        rotate_left
        · (intro w' hSw; (try dsimp only at hSw); go_simp; try with_reducible rfl)
        try simp only [Act.put, List.getElem_toArray, List.getElem_cons_succ, List.getElem_cons_zero, List.setIfInBounds_toArray, List.set_cons_zero, List.set_cons_succ]
        refine AnyG.takeC (i := 8) (v := ?_) rfl (by kernel_rfl) (fun _ _ _ h => h) rfl ?_ hS ?_
        rotate_left
        · (intro w' hSw; (try dsimp only at hSw); go_simp; try with_reducible rfl)
        try simp only [Act.put, List.getElem_toArray, List.getElem_cons_succ, List.getElem_cons_zero, List.setIfInBounds_toArray, List.set_cons_zero, List.set_cons_succ]
        refine AnyG.one (i := 10) (by kernel_rfl) rfl rfl ?_
        go_simp
        refine Onward.on hS (fun hS2 => ?_)
        clear hS2
        try simp only [Act.put, List.getElem_toArray, List.getElem_cons_succ, List.getElem_cons_zero, List.setIfInBounds_toArray, List.set_cons_zero, List.set_cons_succ]
        refine AnyG.one (i := 11) (by kernel_rfl) rfl rfl ?_
        obtain ⟨x0, x1, xf, xz⟩ := kq.two
        have hS0 := hS
        go_simp
        clear x0 x1 xf xz
        have hSn := ((hS.setCell (p := ⟨q, 0, none⟩) hlq (.int .i64 0)).setCell (p := ⟨q, 1, none⟩) hlq (.int .i64 60000))
        clear hS
        refine Onward.on hSn (fun hS => ?_)
        try dsimp only at hS
        clear hSn
        try simp only [Act.put, List.getElem_toArray, List.getElem_cons_succ, List.getElem_cons_zero, List.setIfInBounds_toArray, List.set_cons_zero, List.set_cons_succ]
        refine AnyG.one (i := 12) (by kernel_rfl) rfl rfl ?_
        go_simp
        refine Onward.last rfl ?_
        try simp only [Act.put, List.getElem_toArray, List.getElem_cons_succ, List.getElem_cons_zero, List.setIfInBounds_toArray, List.set_cons_zero, List.set_cons_succ]
        refine AnyG.done (by kernel_rfl) ?_ _
        have f13 := (kq.set_ 0 (.int .i64 0)).set_ 1 (.int .i64 60000)
        simp only [List.setIfInBounds_toArray, List.set_cons_zero, List.set_cons_succ] at f13
        have hBz := (hS0.setCell (p := ⟨q, 0, none⟩) hlq (.int .i64 0)).setCell (p := ⟨q, 1, none⟩) hlq (.int .i64 60000)
        go_simp
        go_wp2_with fail
        go_meet
        exact ⟨q, rfl, rfl, rfl, f13, hBz⟩
    case rest =>
      obtain ⟨qx, rfl, rfl, rfl, kx, hBX⟩ := hcut
      replace HBW := Lib.hid (HBW.out.trans (hBX.mono HBW.out.size))
      replace HK := Lib.hid (HK.out.call hBX)
      obtain ⟨V, hV⟩ : ∃ W, W = wc := ⟨_, rfl⟩
      subst hV
      clear hBX
      go_upto_region 13 with fail
      go_cut [12, 13, 14] from 103 to 111 (fun va vb vc x => ∃ q : Nat, va = .bool false ∧ vb = .pointer (some ⟨q, 0, none⟩) ∧ vc = .int .i64 0 ∧ Bx x q 29 #[.int .i64 0, .int .i64 60000] ∧ Below V.heap.size V x)
      case first =>
        refine AnyG.startC (by kernel_rfl) ?_
        refine AnyG.takeP (i := 1) (v := ?_) rfl (by kernel_rfl) (fun _ _ _ h => h) rfl ?_ ?_
        rotate_left
        · (intro w'; go_simp; try with_reducible rfl)
        try simp only [Act.put, List.getElem_toArray, List.getElem_cons_succ, List.getElem_cons_zero, List.setIfInBounds_toArray, List.set_cons_zero, List.set_cons_succ]
        refine AnyG.takeP (i := 2) (v := ?_) rfl (by kernel_rfl) (fun _ _ _ h => h) rfl ?_ ?_
        rotate_left
        · (intro w'; go_simp; try with_reducible rfl)
        try simp only [Act.put, List.getElem_toArray, List.getElem_cons_succ, List.getElem_cons_zero, List.setIfInBounds_toArray, List.set_cons_zero, List.set_cons_succ]
        refine AnyG.enter (fun w' : World => Below V.heap.size V w') (fun i => i != 12) ?_
        have hS : (fun w' : World => Below V.heap.size V w') (V.drew) := (Below.refl _ _).drew
        try dsimp only at hS
        obtain ⟨y0, hy0⟩ : ∃ y, V.drew = y := ⟨_, rfl⟩
        rw [hy0] at hS ⊢
        clear hy0
        refine AnyG.takeC (i := 0) (v := ?_) rfl (by kernel_rfl) (fun _ _ _ h => h) rfl ?_ hS ?_
        rotate_left
        · (intro w' hSw; (try dsimp only at hSw); obtain ⟨x0, x1, x2, x3, x4, x5, x6, xf, xz⟩ := (HK.out.call hSw).j3.seven; go_simp; try with_reducible rfl)
        try simp only [Act.put, List.getElem_toArray, List.getElem_cons_succ, List.getElem_cons_zero, List.setIfInBounds_toArray, List.set_cons_zero, List.set_cons_succ]
        refine AnyG.takeC (i := 3) (v := ?_) rfl (by kernel_rfl) (fun _ _ _ h => h) rfl ?_ hS ?_
        rotate_left
        · (intro w' hSw; (try dsimp only at hSw); have hr := (HK.out.call hSw).s0; have ca := hr.ca; go_simp; try with_reducible rfl)
        try simp only [Act.put, List.getElem_toArray, List.getElem_cons_succ, List.getElem_cons_zero, List.setIfInBounds_toArray, List.set_cons_zero, List.set_cons_succ]
        refine AnyG.all (rs := [4, 9]) (by kernel_rfl) (by simp) ?_
        intro ii hii
        simp only [List.mem_cons, List.not_mem_nil, or_false] at hii
        rcases hii with rfl | rfl
        · refine ⟨_, rfl, rfl, ?_⟩
          go_simp
          refine (level_any tightV ⟨some ⟨bh3, 0, none⟩, 2, 2, some ⟨bs3, 0, none⟩, 2, 2, some ⟨bl3, 0, none⟩, 3, 3⟩ (some ⟨qs, 0, none⟩) 3 3 [0, 1, -1] _ HF3.out HL3.out (HK.out.call hS).v3 (HK.out.call hS).s0.sl rfl (by omega)).mono ?_
          rintro e4 z4 ⟨rfl, hq4⟩
          rw [if_pos st5, lv1.1, lv1.2]
          dsimp only
          have hSn := (hS.trans (hq4.mono hS.size))
          clear hS
          refine Onward.on hSn (fun hS => ?_)
          try dsimp only at hS
          clear hSn
          try simp only [Act.put, List.getElem_toArray, List.getElem_cons_succ, List.getElem_cons_zero, List.setIfInBounds_toArray, List.set_cons_zero, List.set_cons_succ]
          refine AnyG.takeC (i := 5) (v := ?_) rfl (by kernel_rfl) (fun _ _ _ h => h) rfl ?_ hS ?_
          rotate_left
          · (intro w' hSw; (try dsimp only at hSw); go_simp; try with_reducible rfl)
          try simp only [Act.put, List.getElem_toArray, List.getElem_cons_succ, List.getElem_cons_zero, List.setIfInBounds_toArray, List.set_cons_zero, List.set_cons_succ]
          refine AnyG.takeC (i := 6) (v := ?_) rfl (by kernel_rfl) (fun _ _ _ h => h) rfl ?_ hS ?_
          rotate_left
          · (intro w' hSw; (try dsimp only at hSw); go_simp; try with_reducible rfl)
          try simp only [Act.put, List.getElem_toArray, List.getElem_cons_succ, List.getElem_cons_zero, List.setIfInBounds_toArray, List.set_cons_zero, List.set_cons_succ]
          refine AnyG.takeC (i := 7) (v := ?_) rfl (by kernel_rfl) (fun _ _ _ h => h) rfl ?_ hS ?_
          rotate_left
          · (intro w' hSw; (try dsimp only at hSw); go_simp; try with_reducible rfl)
          try simp only [Act.put, List.getElem_toArray, List.getElem_cons_succ, List.getElem_cons_zero, List.setIfInBounds_toArray, List.set_cons_zero, List.set_cons_succ]
          refine AnyG.takeC (i := 8) (v := ?_) rfl (by kernel_rfl) (fun _ _ _ h => h) rfl ?_ hS ?_
          rotate_left
          · (intro w' hSw; (try dsimp only at hSw); go_simp; try with_reducible rfl)
          try simp only [Act.put, List.getElem_toArray, List.getElem_cons_succ, List.getElem_cons_zero, List.setIfInBounds_toArray, List.set_cons_zero, List.set_cons_succ]
          refine AnyG.one (i := 9) (by kernel_rfl) rfl rfl ?_
          go_simp
          have hq9 := bel1 z4 (.cells #[.int .i64 0, .int .i64 0] 29)
          have kq := Bx.new z4 29 #[.int .i64 0, .int .i64 0]
          have hlq := hS.size
          have hT := hS.trans (hq9.mono hS.size)
          obtain ⟨z9, hy⟩ : ∃ x, z4.alloc (.cells #[.int .i64 0, .int .i64 0] 29) = x := ⟨_, rfl⟩
          rw [hy] at hT kq ⊢
          obtain ⟨q, hbq⟩ : ∃ p, z4.heap.size = p := ⟨_, rfl⟩
          rw [hbq] at kq hlq ⊢
          clear hy hbq hq9
          have hSn := hT
          clear hS
          refine Onward.on hSn (fun hS => ?_)
          try dsimp only at hS
          clear hSn
          try simp only [Act.put, List.getElem_toArray, List.getElem_cons_succ, List.getElem_cons_zero, List.setIfInBounds_toArray, List.set_cons_zero, List.set_cons_succ]
          refine AnyG.one (i := 10) (by kernel_rfl) rfl rfl ?_
          go_simp
          refine Onward.on hS (fun hS2 => ?_)
          clear hS2
          try simp only [Act.put, List.getElem_toArray, List.getElem_cons_succ, List.getElem_cons_zero, List.setIfInBounds_toArray, List.set_cons_zero, List.set_cons_succ]
          refine AnyG.one (i := 11) (by kernel_rfl) rfl rfl ?_
          obtain ⟨x0, x1, xf, xz⟩ := kq.two
          have hS0 := hS
          go_simp
          clear x0 x1 xf xz
          have hSn := ((hS.setCell (p := ⟨q, 0, none⟩) hlq (.int .i64 0)).setCell (p := ⟨q, 1, none⟩) hlq (.int .i64 60000))
          clear hS
          refine Onward.on hSn (fun hS => ?_)
          try dsimp only at hS
          clear hSn
          try simp only [Act.put, List.getElem_toArray, List.getElem_cons_succ, List.getElem_cons_zero, List.setIfInBounds_toArray, List.set_cons_zero, List.set_cons_succ]
          refine AnyG.one (i := 12) (by kernel_rfl) rfl rfl ?_
          go_simp
          refine Onward.last rfl ?_
          try simp only [Act.put, List.getElem_toArray, List.getElem_cons_succ, List.getElem_cons_zero, List.setIfInBounds_toArray, List.set_cons_zero, List.set_cons_succ]
          refine AnyG.done (by kernel_rfl) ?_ _
          have f13 := (kq.set_ 0 (.int .i64 0)).set_ 1 (.int .i64 60000)
          simp only [List.setIfInBounds_toArray, List.set_cons_zero, List.set_cons_succ] at f13
          have hBz := (hS0.setCell (p := ⟨q, 0, none⟩) hlq (.int .i64 0)).setCell (p := ⟨q, 1, none⟩) hlq (.int .i64 60000)
          go_simp
          go_wp2_with fail
          go_meet
          exact ⟨q, rfl, rfl, rfl, f13, hBz⟩
        · refine ⟨_, rfl, rfl, ?_⟩
          go_simp
          have hq9 := bel1 y0 (.cells #[.int .i64 0, .int .i64 0] 29)
          have kq := Bx.new y0 29 #[.int .i64 0, .int .i64 0]
          have hlq := hS.size
          have hT := hS.trans (hq9.mono hS.size)
          obtain ⟨z9, hy⟩ : ∃ x, y0.alloc (.cells #[.int .i64 0, .int .i64 0] 29) = x := ⟨_, rfl⟩
          rw [hy] at hT kq ⊢
          obtain ⟨q, hbq⟩ : ∃ p, y0.heap.size = p := ⟨_, rfl⟩
          rw [hbq] at kq hlq ⊢
          clear hy hbq hq9
          have hSn := hT
          clear hS
          refine Onward.on hSn (fun hS => ?_)
          try dsimp only at hS
          clear hSn
          try simp only [Act.put, List.getElem_toArray, List.getElem_cons_succ, List.getElem_cons_zero, List.setIfInBounds_toArray, List.set_cons_zero, List.set_cons_succ]
          refine AnyG.one (i := 4) (by kernel_rfl) rfl rfl ?_
          go_simp
          refine (level_any tightV ⟨some ⟨bh3, 0, none⟩, 2, 2, some ⟨bs3, 0, none⟩, 2, 2, some ⟨bl3, 0, none⟩, 3, 3⟩ (some ⟨qs, 0, none⟩) 3 3 [0, 1, -1] _ HF3.out HL3.out (HK.out.call hS).v3 (HK.out.call hS).s0.sl rfl (by omega)).mono ?_
          rintro e4 z4 ⟨rfl, hq4⟩
          rw [if_pos st5, lv1.1, lv1.2]
          dsimp only
          replace kq := kq.call hq4
          have hSn := (hS.trans (hq4.mono hS.size))
          clear hS
          refine Onward.on hSn (fun hS => ?_)
          try dsimp only at hS
          clear hSn
          try simp only [Act.put, List.getElem_toArray, List.getElem_cons_succ, List.getElem_cons_zero, List.setIfInBounds_toArray, List.set_cons_zero, List.set_cons_succ]
          refine AnyG.takeC (i := 5) (v := ?_) rfl (by kernel_rfl) (fun _ _ _ h => h) rfl ?_ hS ?_
          rotate_left
          · (intro w' hSw; (try dsimp only at hSw); go_simp; try with_reducible rfl)
          try simp only [Act.put, List.getElem_toArray, List.getElem_cons_succ, List.getElem_cons_zero, List.setIfInBounds_toArray, List.set_cons_zero, List.set_cons_succ]
          refine AnyG.takeC (i := 6) (v := ?_) rfl (by kernel_rfl) (fun _ _ _ h => h) rfl ?_ hS ?_
          rotate_left
          · (intro w' hSw; (try dsimp only at hSw); go_simp; try with_reducible rfl)
          try simp only [Act.put, List.getElem_toArray, List.getElem_cons_succ, List.getElem_cons_zero, List.setIfInBounds_toArray, List.set_cons_zero, List.set_cons_succ]
          refine AnyG.takeC (i := 7) (v := ?_) rfl (by kernel_rfl) (fun _ _ _ h => h) rfl ?_ hS ?_
          rotate_left
          · (intro w' hSw; (try dsimp only at hSw); go_simp; try with_reducible rfl)
          try simp only [Act.put, List.getElem_toArray, List.getElem_cons_succ, List.getElem_cons_zero, List.setIfInBounds_toArray, List.set_cons_zero, List.set_cons_succ]
          refine AnyG.takeC (i := 8) (v := ?_) rfl (by kernel_rfl) (fun _ _ _ h => h) rfl ?_ hS ?_
          rotate_left
          · (intro w' hSw; (try dsimp only at hSw); go_simp; try with_reducible rfl)
          try simp only [Act.put, List.getElem_toArray, List.getElem_cons_succ, List.getElem_cons_zero, List.setIfInBounds_toArray, List.set_cons_zero, List.set_cons_succ]
          refine AnyG.one (i := 10) (by kernel_rfl) rfl rfl ?_
          go_simp
          refine Onward.on hS (fun hS2 => ?_)
          clear hS2
          try simp only [Act.put, List.getElem_toArray, List.getElem_cons_succ, List.getElem_cons_zero, List.setIfInBounds_toArray, List.set_cons_zero, List.set_cons_succ]
          refine AnyG.one (i := 11) (by kernel_rfl) rfl rfl ?_
          obtain ⟨x0, x1, xf, xz⟩ := kq.two
          have hS0 := hS
          go_simp
          clear x0 x1 xf xz
          have hSn := ((hS.setCell (p := ⟨q, 0, none⟩) hlq (.int .i64 0)).setCell (p := ⟨q, 1, none⟩) hlq (.int .i64 60000))
          clear hS
          refine Onward.on hSn (fun hS => ?_)
          try dsimp only at hS
          clear hSn
          try simp only [Act.put, List.getElem_toArray, List.getElem_cons_succ, List.getElem_cons_zero, List.setIfInBounds_toArray, List.set_cons_zero, List.set_cons_succ]
          refine AnyG.one (i := 12) (by kernel_rfl) rfl rfl ?_
          go_simp
          refine Onward.last rfl ?_
          try simp only [Act.put, List.getElem_toArray, List.getElem_cons_succ, List.getElem_cons_zero, List.setIfInBounds_toArray, List.set_cons_zero, List.set_cons_succ]
          refine AnyG.done (by kernel_rfl) ?_ _
          have f13 := (kq.set_ 0 (.int .i64 0)).set_ 1 (.int .i64 60000)
          simp only [List.setIfInBounds_toArray, List.set_cons_zero, List.set_cons_succ] at f13
          have hBz := (hS0.setCell (p := ⟨q, 0, none⟩) hlq (.int .i64 0)).setCell (p := ⟨q, 1, none⟩) hlq (.int .i64 60000)
          go_simp
          go_wp2_with fail
          go_meet
          exact ⟨q, rfl, rfl, rfl, f13, hBz⟩
      case rest =>
        obtain ⟨qy, rfl, rfl, rfl, ky, hBX⟩ := hcut
        replace kx := kx.call hBX
        replace HBW := Lib.hid (HBW.out.trans (hBX.mono HBW.out.size))
        replace HK := Lib.hid (HK.out.call hBX)
        obtain ⟨V, hV⟩ : ∃ W, W = wc := ⟨_, rfl⟩
        subst hV
        clear hBX
        go_upto_region 14 with fail
        go_cut [15, 16, 17] from 112 to 118 (fun va vb vc x => ∃ q : Nat, va = .bool false ∧ vb = .pointer (some ⟨q, 0, none⟩) ∧ vc = .int .i64 0 ∧ Bx x q 29 #[.int .i64 300000, .int .i64 330000] ∧ Below V.heap.size V x)
        case first =>
          go_wp2_with (first
            | (go_at_call 4; refine (voyage_any _).mono ?_; rintro e z2 ⟨⟨p, hF, -, rfl, hV⟩, hz2⟩; rw [vcs_def])
            | (go_at_call 9; have b1 := bel1 z2 (.cells #[.int .i64 0, .int .i64 (-1), .int .i64 (-1)] 3); refine (level_any exV p (some ⟨z2.heap.size, 0, none⟩) 3 3 [0, -1, -1] _ hF ex_lf (hV.call b1) (ints_sl (Bx.new z2 3 #[.int .i64 0, .int .i64 (-1), .int .i64 (-1)]) rfl) rfl (by omega)).mono ?_; rintro e z3 ⟨rfl, hz3⟩; rw [if_pos st4, lv2.1, lv2.2]; dsimp only; have B3 := (hz2.trans (b1.mono hz2.size)).trans (hz3.mono (hz2.trans (b1.mono hz2.size)).size))
            | fail)
          have f13 := Bx.new z3 29 #[.int .i64 300000, .int .i64 330000]
          have B4 := B3.alloc B3.size (.cells #[.int .i64 300000, .int .i64 330000] 29)
          go_meet
          exact ⟨_, rfl, rfl, rfl, f13, B4⟩
        case rest =>
          obtain ⟨qz, rfl, rfl, rfl, kz, hBX⟩ := hcut
          replace kx := kx.call hBX
          replace ky := ky.call hBX
          replace HBW := Lib.hid (HBW.out.trans (hBX.mono HBW.out.size))
          replace HK := Lib.hid (HK.out.call hBX)
          obtain ⟨V, hV⟩ : ∃ W, W = wc := ⟨_, rfl⟩
          subst hV
          clear hBX
          clear HF3 HL3
          go_upto_region 15 with fail
          rename_i jk0 jk1 jk2 jk3 jk4 jk5 jk6 jk7
          revert y1 bh1 b11 b21 bs1 bl1 y2 bh2 b12 b22 bs2 bl2 y3 bh3 b13 b23 bs3 bl3 y4 bh4 b14 b24 bs4 bl4 y5 bh5 b15 b25 bs5 bl5 jj0 q1 hq1l y10 Z j1 u23 u24 u25 u26 u27 u28 u29 u30 u31 u32 u33 u34 u35 u36 u37 u38 u39 u40 u41 u42 u43 u44 u45 u46 u47 u48 u49 u50 u51 u52 u53 j2 u54 u55 u56 u57 u58 u59 u60 u61 u62 u63 u64 u65 u66 u67 u68 u69 U u71 u72 u73 u74 u75 u76 qs qa qe X jj1 u0 u77 u78 u79 u80 u81 u82 u83 u84 u85 u86 u87 u88 u89 u90 u91 u92 u93 jk0 jj2 jj3 jj4 u94 u95 u96 u97 u98 u99 u100 u101 u102 qx jk1 jk2 u103 u104 u105 u106 u107 u108 u109 u110 u111 qy jk3 u112 u113 u114 u115 u116 u117 u118 qz V kz kx ky HBW HK jk4 jk5 jk6 jk7
          exact hTail.out
end Go.Proofs.YtdlohfglmagneaaDoor
