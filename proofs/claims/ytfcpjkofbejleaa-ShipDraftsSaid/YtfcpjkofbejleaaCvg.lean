/- CopyVoyage 22 of any voyage with short lists. -/
import Derived.Test.YtfcpjkofbejleaaRcaM
set_option linter.unusedSimpArgs false
set_option linter.unusedVariables false
namespace Go.Proofs.Ytfcpjkofbejleaa
open Go Go.RowKit
set_option maxRecDepth 100000 in
set_option maxHeartbeats 8000000 in
theorem copyVoyage_gen (v : Vg) (p : Vp) (w : World) (ho : v.Slim) (hV0 : VoyAt w w.heap.size v p) :
    Calls Try.prog 22 #[.agg (vcs v p)] w fun e w' => ∃ (HA : Option Addr) (hc : Nat) (SA : Option Addr) (sc : Nat) (LA : Option Addr) (lc : Nat) (rs : List (List Value)), e = .returned (.agg #[.int .i64 v.li, .int .i64 v.un, .int .i64 v.tr, .slice HA p.hn hc, .int .i64 v.le, .slice SA p.sn sc, .slice LA p.ln lc]) ∧ w'.ownsRow w.heap.size 85 3 (.slice HA p.hn hc) p.hn (v.hs.map hdr).flatten ∧ w'.ownsRow w.heap.size 73 3 (.slice SA p.sn sc) p.sn rs.flatten ∧ SisOwn w' w.heap.size rs v.ss ∧ Apt2 rs ∧ w'.ownsRow w.heap.size 70 3 (.slice LA p.ln lc) p.ln (v.ls.map cgr).flatten ∧ Below w.heap.size w w' := by
  have hln6 : p.ln ≤ 20 := by rw [← hV0.ll]; exact ho.l20
  have hsn4 : p.sn ≤ 20 := by rw [← hV0.sl]; exact ho.s20
  have hhn3 : p.hn ≤ 20 := by rw [← hV0.hl]; exact ho.h20
  obtain ⟨i85, hi85, hz85, hs85, iy85⟩ := info_parts info85
  obtain ⟨i75, hi75, hz75, hs75, iy75⟩ := info_parts info75
  obtain ⟨i73, hi73, hz73, hs73, iy73⟩ := info_parts info73
  obtain ⟨i70, hi70, hz70, hs70, iy70⟩ := info_parts info70
  have B0 := ((Below.refl w.heap.size w).alloc (Nat.le_refl _) (.cells (vcs v p) 26)).alloc (by simp) (.cells #[.int .i64 0, .int .i64 0, .int .i64 0, .slice none 0 0, .int .i64 0, .slice none 0 0, .slice none 0 0] 26)
  have k1 := (Bx.new w 26 (vcs v p)).alloc (.cells #[.int .i64 0, .int .i64 0, .int .i64 0, .slice none 0 0, .int .i64 0, .slice none 0 0, .slice none 0 0] 26)
  have k2 := Bx.at (w.alloc (.cells (vcs v p) 26)) 26 #[.int .i64 0, .int .i64 0, .int .i64 0, .slice none 0 0, .int .i64 0, .slice none 0 0, .slice none 0 0] (n := w.heap.size + 1) (by simp)
  have hV := hV0.call B0
  rw [vcs_def] at k1 k2 B0 hV ⊢
  obtain ⟨V, hVV⟩ : ∃ V, (w.alloc (.cells #[.int .i64 v.li, .int .i64 v.un, .int .i64 v.tr, .slice p.HA p.hn p.hc, .int .i64 v.le, .slice p.SA p.sn p.sc, .slice p.LA p.ln p.lc] 26)).alloc (.cells #[.int .i64 0, .int .i64 0, .int .i64 0, .slice none 0 0, .int .i64 0, .slice none 0 0, .slice none 0 0] 26) = V := ⟨_, rfl⟩
  rw [hVV] at k1 k2 B0 hV
  have HVV := Lib.hid hVV
  have HHL := Lib.hid hV.hl
  have HLL := Lib.hid hV.ll
  have HSS := Lib.hid hV.sl
  have HO := Lib.hid ho
  have H_s := hV.hs
  have L_s := hV.ls
  have H_l : (v.hs.map hdr).flatten.length = p.hn * 3 := by rw [flat_lenS _ (hdr_three _), List.length_map, hV.hl]
  have L_l : (v.ls.map cgr).flatten.length = p.ln * 3 := by rw [flat_lenS _ (cgr_three _), List.length_map, hV.ll]
  have H_3 : 0 < 3 ∧ ∀ r ∈ v.hs.map hdr, r.length = 3 := ⟨by decide, hdr_three _⟩
  have L_3 : 0 < 3 ∧ ∀ r ∈ v.ls.map cgr, r.length = 3 := ⟨by decide, cgr_three _⟩
  have H_1 := one_of (hdr_one v.hs)
  have L_1 := one_of (cgr_one v.ls)
  obtain ⟨l0, l1, l2, l3, l4, l5, l6, lf', lz⟩ := k1.seven
  clear hVV ho
  go_enter Try.func22, Try.ntmps22
  go_upto_region 1 with fail
  rw [HVV.out]
  go_upto_region 2 with fail
  clear l0 l1 l2 l3 l4 l5 l6 lf' lz
  obtain ⟨q1, hq1⟩ : ∃ q, w.heap.size = q := ⟨_, rfl⟩
  have hwq : w.heap.size ≤ q1 := by omega
  obtain ⟨q2, hq2⟩ : ∃ q, w.heap.size + 1 = q := ⟨_, rfl⟩
  have hq21 : q1 < q2 := by omega
  rw [hq2] at k2 ⊢
  rw [hq1] at k1 ⊢
  clear hq1 hq2
  go_cut [3] (fun v3 x => v3 = .slice p.SA p.sn p.sc ∧ ∃ (A3 : Option Addr) (c3 : Nat) (A7 : Option Addr) (c7 : Nat), CV w q1 v.li v.un v.tr v.le v.hs [] v.ls (.slice A3 p.hn c3) (.slice none 0 0) (.slice A7 p.ln c7) [] x ∧ Bx x q2 26 #[.int .i64 0, .int .i64 0, .int .i64 0, .slice none 0 0, .int .i64 0, .slice none 0 0, .slice none 0 0])
  case first =>
    refine AnyG.startC (by kernel_rfl) ?_
    refine AnyG.takeP (i := 1) (v := ?_) rfl (by kernel_rfl) (fun _ _ _ h => h) rfl ?_ ?_
    rotate_left
    · (intro w'; go_simp; try with_reducible rfl)
    try simp only [Act.put, List.getElem_toArray, List.getElem_cons_succ, List.getElem_cons_zero, List.setIfInBounds_toArray, List.set_cons_zero, List.set_cons_succ]
    refine AnyG.takeP (i := 5) (v := ?_) rfl (by kernel_rfl) (fun _ _ _ h => h) rfl ?_ ?_
    rotate_left
    · (intro w'; go_simp; try with_reducible rfl)
    try simp only [Act.put, List.getElem_toArray, List.getElem_cons_succ, List.getElem_cons_zero, List.setIfInBounds_toArray, List.set_cons_zero, List.set_cons_succ]
    refine AnyG.enter (fun w' : World => Below V.heap.size V w') (fun i => i != 9 && i != 10 && i != 11 && i != 12 && i != 13) ?_
    have hS : (fun w' : World => Below V.heap.size V w') (V.drew) := (Below.refl _ _).drew
    try dsimp only at hS
    obtain ⟨y0, hy0⟩ : ∃ y, V.drew = y := ⟨_, rfl⟩
    rw [hy0] at hS ⊢
    clear hy0
    refine AnyG.takeC (i := 2) (v := ?_) rfl (by kernel_rfl) (fun _ _ _ h => h) rfl ?_ hS ?_
    rotate_left
    · (intro w' hSw; (try dsimp only at hSw); obtain ⟨x0, x1, x2, x3, x4, x5, x6, xf, xz⟩ := (k1.call hSw).seven; go_simp; try with_reducible rfl)
    try simp only [Act.put, List.getElem_toArray, List.getElem_cons_succ, List.getElem_cons_zero, List.setIfInBounds_toArray, List.set_cons_zero, List.set_cons_succ]
    refine AnyG.takeC (i := 6) (v := ?_) rfl (by kernel_rfl) (fun _ _ _ h => h) rfl ?_ hS ?_
    rotate_left
    · (intro w' hSw; (try dsimp only at hSw); obtain ⟨x0, x1, x2, x3, x4, x5, x6, xf, xz⟩ := (k1.call hSw).seven; go_simp; try with_reducible rfl)
    try simp only [Act.put, List.getElem_toArray, List.getElem_cons_succ, List.getElem_cons_zero, List.setIfInBounds_toArray, List.set_cons_zero, List.set_cons_succ]
    refine AnyG.all (rs := [0, 4]) (by kernel_rfl) (by simp) ?_
    intro ii hii
    simp only [List.mem_cons, List.not_mem_nil, or_false] at hii
    rcases hii with rfl | rfl
    · refine ⟨_, rfl, rfl, ?_⟩
      go_simp
      have e22 := World.ownsRow_made (w := y0) (base := V.heap.size) (e := 85) (size := 3) #[] 0 hS.size (by unfold maxLen; omega) (by simp)
      have hT := hS.alloc hS.size (.cells #[] 85)
      obtain ⟨z0, hy⟩ : ∃ x, y0.alloc (.cells #[] 85) = x := ⟨_, rfl⟩
      rw [hy] at e22 hT ⊢
      obtain ⟨b22, hbq⟩ : ∃ p, y0.heap.size = p := ⟨_, rfl⟩
      rw [hbq] at e22 ⊢
      clear hy hbq
      have hSn := hT
      clear hS
      refine Onward.on hSn (fun hS => ?_)
      try dsimp only at hS
      clear hSn
      try simp only [Act.put, List.getElem_toArray, List.getElem_cons_succ, List.getElem_cons_zero, List.setIfInBounds_toArray, List.set_cons_zero, List.set_cons_succ]
      refine AnyG.all (rs := [3, 4]) (by kernel_rfl) (by simp) ?_
      intro ii hii
      simp only [List.mem_cons, List.not_mem_nil, or_false] at hii
      rcases hii with rfl | rfl
      · refine ⟨_, rfl, rfl, ?_⟩
        refine wp_app3 (.tmp 7) (.tmp 9) 22 rfl V.heap.size 85 i85 _ 3 24 Try.underlying22 hi85 hz85 hs85 iy85 rfl (by decide) (.slice (some ⟨b22, 0, none⟩) 0 0) 0 [] (by simp [Act.eval]) e22 p.HA p.hn p.hc (v.hs.map hdr).flatten (by simp [Act.eval]) H_l (sl_cells (H_s.call hS) H_3) H_1 (by unfold maxLen; omega) (by omega) hS.size ?_
        intro v3 z3 oh g3 x3 r3
        rw [Nat.zero_add, List.nil_append] at oh
        obtain ⟨A3, c3, rfl⟩ := own_shape oh
        have hSn := hS.grown g3 hS.size (fun q e => (e22.lt q e).1)
        clear hS
        refine Onward.on hSn (fun hS => ?_)
        try dsimp only at hS
        clear hSn
        try simp only [Act.put, List.getElem_toArray, List.getElem_cons_succ, List.getElem_cons_zero, List.setIfInBounds_toArray, List.set_cons_zero, List.set_cons_succ]
        refine AnyG.takeC (i := 8) (v := ?_) rfl (by kernel_rfl) (fun _ _ _ h => h) rfl ?_ hS ?_
        rotate_left
        · (intro w' hSw; (try dsimp only at hSw); go_simp; try with_reducible rfl)
        try simp only [Act.put, List.getElem_toArray, List.getElem_cons_succ, List.getElem_cons_zero, List.setIfInBounds_toArray, List.set_cons_zero, List.set_cons_succ]
        refine AnyG.one (i := 4) (by kernel_rfl) rfl rfl ?_
        go_simp
        have e24 := World.ownsRow_made (w := z3) (base := V.heap.size) (e := 70) (size := 3) #[] 0 hS.size (by unfold maxLen; omega) (by simp)
        replace oh := oh.alloc (.cells #[] 70)
        have hT := hS.alloc hS.size (.cells #[] 70)
        obtain ⟨z4, hy⟩ : ∃ x, z3.alloc (.cells #[] 70) = x := ⟨_, rfl⟩
        rw [hy] at e24 hT oh ⊢
        obtain ⟨b24, hbq⟩ : ∃ p, z3.heap.size = p := ⟨_, rfl⟩
        rw [hbq] at e24 ⊢
        clear hy hbq
        have hSn := hT
        clear hS
        refine Onward.on hSn (fun hS => ?_)
        try dsimp only at hS
        clear hSn
        try simp only [Act.put, List.getElem_toArray, List.getElem_cons_succ, List.getElem_cons_zero, List.setIfInBounds_toArray, List.set_cons_zero, List.set_cons_succ]
        refine AnyG.one (i := 7) (by kernel_rfl) rfl rfl ?_
        refine wp_app3 (.tmp 11) (.tmp 13) 24 rfl V.heap.size 70 i70 _ 3 24 Try.underlying24 hi70 hz70 hs70 iy70 rfl (by decide) (.slice (some ⟨b24, 0, none⟩) 0 0) 0 [] (by simp [Act.eval]) e24 p.LA p.ln p.lc (v.ls.map cgr).flatten (by simp [Act.eval]) L_l (sl_cells (L_s.call hS) L_3) L_1 (by unfold maxLen; omega) (by omega) hS.size ?_
        intro v7 z7 ol g7 x7 r7
        rw [Nat.zero_add, List.nil_append] at ol
        obtain ⟨A7, c7, rfl⟩ := own_shape ol
        replace oh := oh.kept g7 (own_ne oh e24 (by decide))
        have hSn := hS.grown g7 hS.size (fun q e => (e24.lt q e).1)
        clear hS
        refine Onward.on hSn (fun hS => ?_)
        try dsimp only at hS
        clear hSn
        try simp only [Act.put, List.getElem_toArray, List.getElem_cons_succ, List.getElem_cons_zero, List.setIfInBounds_toArray, List.set_cons_zero, List.set_cons_succ]
        refine AnyG.one (i := 9) (by kernel_rfl) rfl rfl ?_
        have k9 := k1.call hS
        have hS9 := hS
        obtain ⟨x0, x1, x2, x3, x4, x5, x6, xf, xz⟩ := k9.seven
        go_simp
        clear x0 x1 x2 x3 x4 x5 x6 xf xz
        refine Onward.last rfl ?_
        try simp only [Act.put, List.getElem_toArray, List.getElem_cons_succ, List.getElem_cons_zero, List.setIfInBounds_toArray, List.set_cons_zero, List.set_cons_succ]
        refine AnyG.one (i := 10) (by kernel_rfl) rfl rfl ?_
        go_simp
        refine Onward.last rfl ?_
        try simp only [Act.put, List.getElem_toArray, List.getElem_cons_succ, List.getElem_cons_zero, List.setIfInBounds_toArray, List.set_cons_zero, List.set_cons_succ]
        refine AnyG.one (i := 11) (by kernel_rfl) rfl rfl ?_
        have k9a := k9.set_ 3 (.slice A3 p.hn c3)
        simp only [List.setIfInBounds_toArray, List.set_cons_zero, List.set_cons_succ] at k9a
        obtain ⟨x0, x1, x2, x3, x4, x5, x6, xf, xz⟩ := k9a.seven
        go_simp
        clear x0 x1 x2 x3 x4 x5 x6 xf xz
        refine Onward.last rfl ?_
        try simp only [Act.put, List.getElem_toArray, List.getElem_cons_succ, List.getElem_cons_zero, List.setIfInBounds_toArray, List.set_cons_zero, List.set_cons_succ]
        refine AnyG.one (i := 12) (by kernel_rfl) rfl rfl ?_
        go_simp
        refine Onward.last rfl ?_
        try simp only [Act.put, List.getElem_toArray, List.getElem_cons_succ, List.getElem_cons_zero, List.setIfInBounds_toArray, List.set_cons_zero, List.set_cons_succ]
        refine AnyG.one (i := 13) (by kernel_rfl) rfl rfl ?_
        have k9b := k9a.set_ 6 (.slice A7 p.ln c7)
        simp only [List.setIfInBounds_toArray, List.set_cons_zero, List.set_cons_succ] at k9b
        obtain ⟨x0, x1, x2, x3, x4, x5, x6, xf, xz⟩ := k9b.seven
        go_simp
        clear x0 x1 x2 x3 x4 x5 x6 xf xz
        refine Onward.last rfl ?_
        try simp only [Act.put, List.getElem_toArray, List.getElem_cons_succ, List.getElem_cons_zero, List.setIfInBounds_toArray, List.set_cons_zero, List.set_cons_succ]
        refine AnyG.done (by kernel_rfl) ?_ _
        have k9c := k9b.set_ 5 (.slice none 0 0)
        simp only [List.setIfInBounds_toArray, List.set_cons_zero, List.set_cons_succ] at k9c
        have hq1 : q1 < V.heap.size := k1.lt
        have ohZ := own_set (own_set (own_set oh (own_bx oh k9 (by decide)) (o := 3) (.slice A3 p.hn c3)) (own_bx oh k9 (by decide)) (o := 6) (.slice A7 p.ln c7)) (own_bx oh k9 (by decide)) (o := 5) (.slice none 0 0)
        have olZ := own_set (own_set (own_set ol (own_bx ol k9 (by decide)) (o := 3) (.slice A3 p.hn c3)) (own_bx ol k9 (by decide)) (o := 6) (.slice A7 p.ln c7)) (own_bx ol k9 (by decide)) (o := 5) (.slice none 0 0)
        have k2Z := (((k2.call hS9).far (p := ⟨q1, 3, none⟩) (by show q2 ≠ q1; omega) (.slice A3 p.hn c3)).far (p := ⟨q1, 6, none⟩) (by show q2 ≠ q1; omega) (.slice A7 p.ln c7)).far (p := ⟨q1, 5, none⟩) (by show q2 ≠ q1; omega) (.slice none 0 0)
        have hwV := B0.trans (hS9.mono B0.size)
        have hBZ := ((hwV.setCell (p := ⟨q1, 3, none⟩) hwq (.slice A3 p.hn c3)).setCell (p := ⟨q1, 6, none⟩) hwq (.slice A7 p.ln c7)).setCell (p := ⟨q1, 5, none⟩) hwq (.slice none 0 0)
        have hsz := hS9.size
        obtain ⟨Z, hZ⟩ : ∃ Z, ((z7.setCell ⟨q1, 3, none⟩ (.slice A3 p.hn c3)).setCell ⟨q1, 6, none⟩ (.slice A7 p.ln c7)).setCell ⟨q1, 5, none⟩ (.slice none 0 0) = Z := ⟨_, rfl⟩
        have hZs : Z.heap.size = z7.heap.size := by rw [← hZ]; simp [World.setCell]
        rw [hZ] at k9c ohZ olZ k2Z hBZ
        have C0 : CV w q1 v.li v.un v.tr v.le v.hs [] v.ls (.slice A3 p.hn c3) (.slice none 0 0) (.slice A7 p.ln c7) [] Z := ⟨k9c, by rw [HHL.out]; exact own_down ohZ B0.size, World.ownsRow_nil _ _ _ _, .nil _ _, fun i j r s u v _ h => by simp at h, by rw [HLL.out]; exact own_down olZ B0.size, hBZ, hwq⟩
        have hTZ := Lib.hid (And.intro C0 k2Z)
        go_simp
        try rw [hZ]
        clear hZ
        go_wp2_with fail
        go_meet
        exact ⟨rfl, A3, c3, A7, c7, C0, k2Z⟩
      · refine ⟨_, rfl, rfl, ?_⟩
        go_simp
        have e24 := World.ownsRow_made (w := z0) (base := V.heap.size) (e := 70) (size := 3) #[] 0 hS.size (by unfold maxLen; omega) (by simp)
        replace e22 := e22.alloc (.cells #[] 70)
        have hT := hS.alloc hS.size (.cells #[] 70)
        obtain ⟨z4, hy⟩ : ∃ x, z0.alloc (.cells #[] 70) = x := ⟨_, rfl⟩
        rw [hy] at e24 hT e22 ⊢
        obtain ⟨b24, hbq⟩ : ∃ p, z0.heap.size = p := ⟨_, rfl⟩
        rw [hbq] at e24 ⊢
        clear hy hbq
        have hSn := hT
        clear hS
        refine Onward.on hSn (fun hS => ?_)
        try dsimp only at hS
        clear hSn
        try simp only [Act.put, List.getElem_toArray, List.getElem_cons_succ, List.getElem_cons_zero, List.setIfInBounds_toArray, List.set_cons_zero, List.set_cons_succ]
        refine AnyG.one (i := 3) (by kernel_rfl) rfl rfl ?_
        refine wp_app3 (.tmp 7) (.tmp 9) 22 rfl V.heap.size 85 i85 _ 3 24 Try.underlying22 hi85 hz85 hs85 iy85 rfl (by decide) (.slice (some ⟨b22, 0, none⟩) 0 0) 0 [] (by simp [Act.eval]) e22 p.HA p.hn p.hc (v.hs.map hdr).flatten (by simp [Act.eval]) H_l (sl_cells (H_s.call hS) H_3) H_1 (by unfold maxLen; omega) (by omega) hS.size ?_
        intro v3 z3 oh g3 x3 r3
        rw [Nat.zero_add, List.nil_append] at oh
        obtain ⟨A3, c3, rfl⟩ := own_shape oh
        replace e24 := e24.kept g3 (own_ne e24 e22 (by decide))
        have hSn := hS.grown g3 hS.size (fun q e => (e22.lt q e).1)
        clear hS
        refine Onward.on hSn (fun hS => ?_)
        try dsimp only at hS
        clear hSn
        try simp only [Act.put, List.getElem_toArray, List.getElem_cons_succ, List.getElem_cons_zero, List.setIfInBounds_toArray, List.set_cons_zero, List.set_cons_succ]
        refine AnyG.takeC (i := 8) (v := ?_) rfl (by kernel_rfl) (fun _ _ _ h => h) rfl ?_ hS ?_
        rotate_left
        · (intro w' hSw; (try dsimp only at hSw); go_simp; try with_reducible rfl)
        try simp only [Act.put, List.getElem_toArray, List.getElem_cons_succ, List.getElem_cons_zero, List.setIfInBounds_toArray, List.set_cons_zero, List.set_cons_succ]
        refine AnyG.one (i := 7) (by kernel_rfl) rfl rfl ?_
        refine wp_app3 (.tmp 11) (.tmp 13) 24 rfl V.heap.size 70 i70 _ 3 24 Try.underlying24 hi70 hz70 hs70 iy70 rfl (by decide) (.slice (some ⟨b24, 0, none⟩) 0 0) 0 [] (by simp [Act.eval]) e24 p.LA p.ln p.lc (v.ls.map cgr).flatten (by simp [Act.eval]) L_l (sl_cells (L_s.call hS) L_3) L_1 (by unfold maxLen; omega) (by omega) hS.size ?_
        intro v7 z7 ol g7 x7 r7
        rw [Nat.zero_add, List.nil_append] at ol
        obtain ⟨A7, c7, rfl⟩ := own_shape ol
        replace oh := oh.kept g7 (own_ne oh e24 (by decide))
        have hSn := hS.grown g7 hS.size (fun q e => (e24.lt q e).1)
        clear hS
        refine Onward.on hSn (fun hS => ?_)
        try dsimp only at hS
        clear hSn
        try simp only [Act.put, List.getElem_toArray, List.getElem_cons_succ, List.getElem_cons_zero, List.setIfInBounds_toArray, List.set_cons_zero, List.set_cons_succ]
        refine AnyG.one (i := 9) (by kernel_rfl) rfl rfl ?_
        have k9 := k1.call hS
        have hS9 := hS
        obtain ⟨x0, x1, x2, x3, x4, x5, x6, xf, xz⟩ := k9.seven
        go_simp
        clear x0 x1 x2 x3 x4 x5 x6 xf xz
        refine Onward.last rfl ?_
        try simp only [Act.put, List.getElem_toArray, List.getElem_cons_succ, List.getElem_cons_zero, List.setIfInBounds_toArray, List.set_cons_zero, List.set_cons_succ]
        refine AnyG.one (i := 10) (by kernel_rfl) rfl rfl ?_
        go_simp
        refine Onward.last rfl ?_
        try simp only [Act.put, List.getElem_toArray, List.getElem_cons_succ, List.getElem_cons_zero, List.setIfInBounds_toArray, List.set_cons_zero, List.set_cons_succ]
        refine AnyG.one (i := 11) (by kernel_rfl) rfl rfl ?_
        have k9a := k9.set_ 3 (.slice A3 p.hn c3)
        simp only [List.setIfInBounds_toArray, List.set_cons_zero, List.set_cons_succ] at k9a
        obtain ⟨x0, x1, x2, x3, x4, x5, x6, xf, xz⟩ := k9a.seven
        go_simp
        clear x0 x1 x2 x3 x4 x5 x6 xf xz
        refine Onward.last rfl ?_
        try simp only [Act.put, List.getElem_toArray, List.getElem_cons_succ, List.getElem_cons_zero, List.setIfInBounds_toArray, List.set_cons_zero, List.set_cons_succ]
        refine AnyG.one (i := 12) (by kernel_rfl) rfl rfl ?_
        go_simp
        refine Onward.last rfl ?_
        try simp only [Act.put, List.getElem_toArray, List.getElem_cons_succ, List.getElem_cons_zero, List.setIfInBounds_toArray, List.set_cons_zero, List.set_cons_succ]
        refine AnyG.one (i := 13) (by kernel_rfl) rfl rfl ?_
        have k9b := k9a.set_ 6 (.slice A7 p.ln c7)
        simp only [List.setIfInBounds_toArray, List.set_cons_zero, List.set_cons_succ] at k9b
        obtain ⟨x0, x1, x2, x3, x4, x5, x6, xf, xz⟩ := k9b.seven
        go_simp
        clear x0 x1 x2 x3 x4 x5 x6 xf xz
        refine Onward.last rfl ?_
        try simp only [Act.put, List.getElem_toArray, List.getElem_cons_succ, List.getElem_cons_zero, List.setIfInBounds_toArray, List.set_cons_zero, List.set_cons_succ]
        refine AnyG.done (by kernel_rfl) ?_ _
        have k9c := k9b.set_ 5 (.slice none 0 0)
        simp only [List.setIfInBounds_toArray, List.set_cons_zero, List.set_cons_succ] at k9c
        have hq1 : q1 < V.heap.size := k1.lt
        have ohZ := own_set (own_set (own_set oh (own_bx oh k9 (by decide)) (o := 3) (.slice A3 p.hn c3)) (own_bx oh k9 (by decide)) (o := 6) (.slice A7 p.ln c7)) (own_bx oh k9 (by decide)) (o := 5) (.slice none 0 0)
        have olZ := own_set (own_set (own_set ol (own_bx ol k9 (by decide)) (o := 3) (.slice A3 p.hn c3)) (own_bx ol k9 (by decide)) (o := 6) (.slice A7 p.ln c7)) (own_bx ol k9 (by decide)) (o := 5) (.slice none 0 0)
        have k2Z := (((k2.call hS9).far (p := ⟨q1, 3, none⟩) (by show q2 ≠ q1; omega) (.slice A3 p.hn c3)).far (p := ⟨q1, 6, none⟩) (by show q2 ≠ q1; omega) (.slice A7 p.ln c7)).far (p := ⟨q1, 5, none⟩) (by show q2 ≠ q1; omega) (.slice none 0 0)
        have hwV := B0.trans (hS9.mono B0.size)
        have hBZ := ((hwV.setCell (p := ⟨q1, 3, none⟩) hwq (.slice A3 p.hn c3)).setCell (p := ⟨q1, 6, none⟩) hwq (.slice A7 p.ln c7)).setCell (p := ⟨q1, 5, none⟩) hwq (.slice none 0 0)
        have hsz := hS9.size
        obtain ⟨Z, hZ⟩ : ∃ Z, ((z7.setCell ⟨q1, 3, none⟩ (.slice A3 p.hn c3)).setCell ⟨q1, 6, none⟩ (.slice A7 p.ln c7)).setCell ⟨q1, 5, none⟩ (.slice none 0 0) = Z := ⟨_, rfl⟩
        have hZs : Z.heap.size = z7.heap.size := by rw [← hZ]; simp [World.setCell]
        rw [hZ] at k9c ohZ olZ k2Z hBZ
        have C0 : CV w q1 v.li v.un v.tr v.le v.hs [] v.ls (.slice A3 p.hn c3) (.slice none 0 0) (.slice A7 p.ln c7) [] Z := ⟨k9c, by rw [HHL.out]; exact own_down ohZ B0.size, World.ownsRow_nil _ _ _ _, .nil _ _, fun i j r s u v _ h => by simp at h, by rw [HLL.out]; exact own_down olZ B0.size, hBZ, hwq⟩
        have hTZ := Lib.hid (And.intro C0 k2Z)
        go_simp
        try rw [hZ]
        clear hZ
        go_wp2_with fail
        go_meet
        exact ⟨rfl, A3, c3, A7, c7, C0, k2Z⟩
    · refine ⟨_, rfl, rfl, ?_⟩
      go_simp
      have e24 := World.ownsRow_made (w := y0) (base := V.heap.size) (e := 70) (size := 3) #[] 0 hS.size (by unfold maxLen; omega) (by simp)
      have hT := hS.alloc hS.size (.cells #[] 70)
      obtain ⟨z4, hy⟩ : ∃ x, y0.alloc (.cells #[] 70) = x := ⟨_, rfl⟩
      rw [hy] at e24 hT ⊢
      obtain ⟨b24, hbq⟩ : ∃ p, y0.heap.size = p := ⟨_, rfl⟩
      rw [hbq] at e24 ⊢
      clear hy hbq
      have hSn := hT
      clear hS
      refine Onward.on hSn (fun hS => ?_)
      try dsimp only at hS
      clear hSn
      try simp only [Act.put, List.getElem_toArray, List.getElem_cons_succ, List.getElem_cons_zero, List.setIfInBounds_toArray, List.set_cons_zero, List.set_cons_succ]
      refine AnyG.one (i := 0) (by kernel_rfl) rfl rfl ?_
      go_simp
      have e22 := World.ownsRow_made (w := z4) (base := V.heap.size) (e := 85) (size := 3) #[] 0 hS.size (by unfold maxLen; omega) (by simp)
      replace e24 := e24.alloc (.cells #[] 85)
      have hT := hS.alloc hS.size (.cells #[] 85)
      obtain ⟨z0, hy⟩ : ∃ x, z4.alloc (.cells #[] 85) = x := ⟨_, rfl⟩
      rw [hy] at e22 hT e24 ⊢
      obtain ⟨b22, hbq⟩ : ∃ p, z4.heap.size = p := ⟨_, rfl⟩
      rw [hbq] at e22 ⊢
      clear hy hbq
      have hSn := hT
      clear hS
      refine Onward.on hSn (fun hS => ?_)
      try dsimp only at hS
      clear hSn
      try simp only [Act.put, List.getElem_toArray, List.getElem_cons_succ, List.getElem_cons_zero, List.setIfInBounds_toArray, List.set_cons_zero, List.set_cons_succ]
      refine AnyG.one (i := 3) (by kernel_rfl) rfl rfl ?_
      refine wp_app3 (.tmp 7) (.tmp 9) 22 rfl V.heap.size 85 i85 _ 3 24 Try.underlying22 hi85 hz85 hs85 iy85 rfl (by decide) (.slice (some ⟨b22, 0, none⟩) 0 0) 0 [] (by simp [Act.eval]) e22 p.HA p.hn p.hc (v.hs.map hdr).flatten (by simp [Act.eval]) H_l (sl_cells (H_s.call hS) H_3) H_1 (by unfold maxLen; omega) (by omega) hS.size ?_
      intro v3 z3 oh g3 x3 r3
      rw [Nat.zero_add, List.nil_append] at oh
      obtain ⟨A3, c3, rfl⟩ := own_shape oh
      replace e24 := e24.kept g3 (own_ne e24 e22 (by decide))
      have hSn := hS.grown g3 hS.size (fun q e => (e22.lt q e).1)
      clear hS
      refine Onward.on hSn (fun hS => ?_)
      try dsimp only at hS
      clear hSn
      try simp only [Act.put, List.getElem_toArray, List.getElem_cons_succ, List.getElem_cons_zero, List.setIfInBounds_toArray, List.set_cons_zero, List.set_cons_succ]
      refine AnyG.takeC (i := 8) (v := ?_) rfl (by kernel_rfl) (fun _ _ _ h => h) rfl ?_ hS ?_
      rotate_left
      · (intro w' hSw; (try dsimp only at hSw); go_simp; try with_reducible rfl)
      try simp only [Act.put, List.getElem_toArray, List.getElem_cons_succ, List.getElem_cons_zero, List.setIfInBounds_toArray, List.set_cons_zero, List.set_cons_succ]
      refine AnyG.one (i := 7) (by kernel_rfl) rfl rfl ?_
      refine wp_app3 (.tmp 11) (.tmp 13) 24 rfl V.heap.size 70 i70 _ 3 24 Try.underlying24 hi70 hz70 hs70 iy70 rfl (by decide) (.slice (some ⟨b24, 0, none⟩) 0 0) 0 [] (by simp [Act.eval]) e24 p.LA p.ln p.lc (v.ls.map cgr).flatten (by simp [Act.eval]) L_l (sl_cells (L_s.call hS) L_3) L_1 (by unfold maxLen; omega) (by omega) hS.size ?_
      intro v7 z7 ol g7 x7 r7
      rw [Nat.zero_add, List.nil_append] at ol
      obtain ⟨A7, c7, rfl⟩ := own_shape ol
      replace oh := oh.kept g7 (own_ne oh e24 (by decide))
      have hSn := hS.grown g7 hS.size (fun q e => (e24.lt q e).1)
      clear hS
      refine Onward.on hSn (fun hS => ?_)
      try dsimp only at hS
      clear hSn
      try simp only [Act.put, List.getElem_toArray, List.getElem_cons_succ, List.getElem_cons_zero, List.setIfInBounds_toArray, List.set_cons_zero, List.set_cons_succ]
      refine AnyG.one (i := 9) (by kernel_rfl) rfl rfl ?_
      have k9 := k1.call hS
      have hS9 := hS
      obtain ⟨x0, x1, x2, x3, x4, x5, x6, xf, xz⟩ := k9.seven
      go_simp
      clear x0 x1 x2 x3 x4 x5 x6 xf xz
      refine Onward.last rfl ?_
      try simp only [Act.put, List.getElem_toArray, List.getElem_cons_succ, List.getElem_cons_zero, List.setIfInBounds_toArray, List.set_cons_zero, List.set_cons_succ]
      refine AnyG.one (i := 10) (by kernel_rfl) rfl rfl ?_
      go_simp
      refine Onward.last rfl ?_
      try simp only [Act.put, List.getElem_toArray, List.getElem_cons_succ, List.getElem_cons_zero, List.setIfInBounds_toArray, List.set_cons_zero, List.set_cons_succ]
      refine AnyG.one (i := 11) (by kernel_rfl) rfl rfl ?_
      have k9a := k9.set_ 3 (.slice A3 p.hn c3)
      simp only [List.setIfInBounds_toArray, List.set_cons_zero, List.set_cons_succ] at k9a
      obtain ⟨x0, x1, x2, x3, x4, x5, x6, xf, xz⟩ := k9a.seven
      go_simp
      clear x0 x1 x2 x3 x4 x5 x6 xf xz
      refine Onward.last rfl ?_
      try simp only [Act.put, List.getElem_toArray, List.getElem_cons_succ, List.getElem_cons_zero, List.setIfInBounds_toArray, List.set_cons_zero, List.set_cons_succ]
      refine AnyG.one (i := 12) (by kernel_rfl) rfl rfl ?_
      go_simp
      refine Onward.last rfl ?_
      try simp only [Act.put, List.getElem_toArray, List.getElem_cons_succ, List.getElem_cons_zero, List.setIfInBounds_toArray, List.set_cons_zero, List.set_cons_succ]
      refine AnyG.one (i := 13) (by kernel_rfl) rfl rfl ?_
      have k9b := k9a.set_ 6 (.slice A7 p.ln c7)
      simp only [List.setIfInBounds_toArray, List.set_cons_zero, List.set_cons_succ] at k9b
      obtain ⟨x0, x1, x2, x3, x4, x5, x6, xf, xz⟩ := k9b.seven
      go_simp
      clear x0 x1 x2 x3 x4 x5 x6 xf xz
      refine Onward.last rfl ?_
      try simp only [Act.put, List.getElem_toArray, List.getElem_cons_succ, List.getElem_cons_zero, List.setIfInBounds_toArray, List.set_cons_zero, List.set_cons_succ]
      refine AnyG.done (by kernel_rfl) ?_ _
      have k9c := k9b.set_ 5 (.slice none 0 0)
      simp only [List.setIfInBounds_toArray, List.set_cons_zero, List.set_cons_succ] at k9c
      have hq1 : q1 < V.heap.size := k1.lt
      have ohZ := own_set (own_set (own_set oh (own_bx oh k9 (by decide)) (o := 3) (.slice A3 p.hn c3)) (own_bx oh k9 (by decide)) (o := 6) (.slice A7 p.ln c7)) (own_bx oh k9 (by decide)) (o := 5) (.slice none 0 0)
      have olZ := own_set (own_set (own_set ol (own_bx ol k9 (by decide)) (o := 3) (.slice A3 p.hn c3)) (own_bx ol k9 (by decide)) (o := 6) (.slice A7 p.ln c7)) (own_bx ol k9 (by decide)) (o := 5) (.slice none 0 0)
      have k2Z := (((k2.call hS9).far (p := ⟨q1, 3, none⟩) (by show q2 ≠ q1; omega) (.slice A3 p.hn c3)).far (p := ⟨q1, 6, none⟩) (by show q2 ≠ q1; omega) (.slice A7 p.ln c7)).far (p := ⟨q1, 5, none⟩) (by show q2 ≠ q1; omega) (.slice none 0 0)
      have hwV := B0.trans (hS9.mono B0.size)
      have hBZ := ((hwV.setCell (p := ⟨q1, 3, none⟩) hwq (.slice A3 p.hn c3)).setCell (p := ⟨q1, 6, none⟩) hwq (.slice A7 p.ln c7)).setCell (p := ⟨q1, 5, none⟩) hwq (.slice none 0 0)
      have hsz := hS9.size
      obtain ⟨Z, hZ⟩ : ∃ Z, ((z7.setCell ⟨q1, 3, none⟩ (.slice A3 p.hn c3)).setCell ⟨q1, 6, none⟩ (.slice A7 p.ln c7)).setCell ⟨q1, 5, none⟩ (.slice none 0 0) = Z := ⟨_, rfl⟩
      have hZs : Z.heap.size = z7.heap.size := by rw [← hZ]; simp [World.setCell]
      rw [hZ] at k9c ohZ olZ k2Z hBZ
      have C0 : CV w q1 v.li v.un v.tr v.le v.hs [] v.ls (.slice A3 p.hn c3) (.slice none 0 0) (.slice A7 p.ln c7) [] Z := ⟨k9c, by rw [HHL.out]; exact own_down ohZ B0.size, World.ownsRow_nil _ _ _ _, .nil _ _, fun i j r s u v _ h => by simp at h, by rw [HLL.out]; exact own_down olZ B0.size, hBZ, hwq⟩
      have hTZ := Lib.hid (And.intro C0 k2Z)
      go_simp
      try rw [hZ]
      clear hZ
      go_wp2_with fail
      go_meet
      exact ⟨rfl, A3, c3, A7, c7, C0, k2Z⟩
  case rest =>
    obtain ⟨rfl, A3, c3, A7, c7, C0, k2⟩ := hcut
    clear H_s L_s H_l L_l H_3 L_3 H_1 L_1 k1
    go_wp2_with fail
    go_loopw [4] (fun iv wr => ∃ (i : Nat) (SA2 : Option Addr) (sc2 : Nat) (rs : List (List Value)), iv = .int .i64 i ∧ i ≤ p.sn ∧ CV w q1 v.li v.un v.tr v.le v.hs (v.ss.take i) v.ls (.slice A3 p.hn c3) (.slice SA2 i sc2) (.slice A7 p.ln c7) rs wr ∧ Bx wr q2 26 #[.int .i64 0, .int .i64 0, .int .i64 0, .slice none 0 0, .int .i64 0, .slice none 0 0, .slice none 0 0]) (fun iv _ => p.sn - (intOf iv).toNat)
    case atStart => exact ⟨0, none, 0, [], rfl, by omega, by rw [List.take_zero]; exact C0, k2⟩
    case round =>
      clear C0 k2
      obtain ⟨i, SA2, sc2, rs, rfl, hi, C, k2⟩ := hrel
      obtain ⟨U, rfl⟩ : ∃ U, U = wr := ⟨_, rfl⟩
      by_cases hin : i < p.sn
      · have hil : i < v.ss.length := by rw [HSS.out]; exact hin
        obtain ⟨ad, G, gc, hSA, _, d0, d1, d2, hgc, hG⟩ := (hV0.call C.hb).ss.at_ hil
        have hbok := HO.out.v20 _ (List.getElem_mem hil)
        have htk := List.take_succ_eq_append_getElem hil
        have hSL : (v.ss.take i).length = i := by rw [List.length_take]; omega
        generalize v.ss[i] = b at *
        obtain ⟨gn, hgn⟩ : ∃ gn, b.lv.length = gn := ⟨_, rfl⟩
        rw [hgn] at d2 hgc
        have HGN := Lib.hid hgn
        have hg6 : gn ≤ 20 := by rw [← hgn]; exact hbok
        have HGL := Lib.hid (show (b.lv.map lvr).flatten.length = gn * 3 by rw [flat_lenS _ (lvr_three _), List.length_map, hgn])
        have HTK := Lib.hid htk
        have HSL := Lib.hid hSL
        have HSA := Lib.hid hSA
        have kU := C.k
        have hGU := hG
        have HC := Lib.hid C
        have hiw : IntKind.i64.wrap ((i : Int) + 1) = (i : Int) + 1 := IntWalk.i64_in _ (by omega)
        have hBs := C.hb.size
        clear hgn htk hSL C hbok hil
        go_upto_region 6 with fail
        clear hSA
        refine AnyG.startC (by kernel_rfl) ?_
        refine AnyG.takeP (i := 0) (v := ?_) rfl (by kernel_rfl) (fun _ _ _ h => h) rfl ?_ ?_
        rotate_left
        · (intro w'; go_simp; try with_reducible rfl)
        try simp only [Act.put, List.getElem_toArray, List.getElem_cons_succ, List.getElem_cons_zero, List.setIfInBounds_toArray, List.set_cons_zero, List.set_cons_succ]
        refine AnyG.takeP (i := 2) (v := ?_) rfl (by kernel_rfl) (fun _ _ _ h => h) rfl ?_ ?_
        rotate_left
        · (intro w'; go_simp; try with_reducible rfl)
        try simp only [Act.put, List.getElem_toArray, List.getElem_cons_succ, List.getElem_cons_zero, List.setIfInBounds_toArray, List.set_cons_zero, List.set_cons_succ]
        refine AnyG.takeP (i := 3) (v := ?_) rfl (by kernel_rfl) (fun _ _ _ h => h) rfl ?_ ?_
        rotate_left
        · (intro w'; go_simp; try with_reducible rfl)
        try simp only [Act.put, List.getElem_toArray, List.getElem_cons_succ, List.getElem_cons_zero, List.setIfInBounds_toArray, List.set_cons_zero, List.set_cons_succ]
        refine AnyG.takeP (i := 4) (v := ?_) rfl (by kernel_rfl) (fun _ _ _ h => h) rfl ?_ ?_
        rotate_left
        · (intro w'; rw [HSA.out]; go_simp; try with_reducible rfl)
        try simp only [Act.put, List.getElem_toArray, List.getElem_cons_succ, List.getElem_cons_zero, List.setIfInBounds_toArray, List.set_cons_zero, List.set_cons_succ]
        refine AnyG.takeP (i := 5) (v := ?_) rfl (by kernel_rfl) (fun _ _ _ h => h) rfl ?_ ?_
        rotate_left
        · (intro w'; go_simp; try with_reducible rfl)
        try simp only [Act.put, List.getElem_toArray, List.getElem_cons_succ, List.getElem_cons_zero, List.setIfInBounds_toArray, List.set_cons_zero, List.set_cons_succ]
        refine AnyG.takeP (i := 8) (v := ?_) rfl (by kernel_rfl) (fun _ _ _ h => h) rfl ?_ ?_
        rotate_left
        · (intro w'; go_simp; try with_reducible rfl)
        try simp only [Act.put, List.getElem_toArray, List.getElem_cons_succ, List.getElem_cons_zero, List.setIfInBounds_toArray, List.set_cons_zero, List.set_cons_succ]
        refine AnyG.takeP (i := 9) (v := ?_) rfl (by kernel_rfl) (fun _ _ _ h => h) rfl ?_ ?_
        rotate_left
        · (intro w'; go_simp; try with_reducible rfl)
        try simp only [Act.put, List.getElem_toArray, List.getElem_cons_succ, List.getElem_cons_zero, List.setIfInBounds_toArray, List.set_cons_zero, List.set_cons_succ]
        refine AnyG.takeP (i := 10) (v := ?_) rfl (by kernel_rfl) (fun _ _ _ h => h) rfl ?_ ?_
        rotate_left
        · (intro w'; rw [HSA.out]; go_simp; try with_reducible rfl)
        try simp only [Act.put, List.getElem_toArray, List.getElem_cons_succ, List.getElem_cons_zero, List.setIfInBounds_toArray, List.set_cons_zero, List.set_cons_succ]
        refine AnyG.takeP (i := 11) (v := ?_) rfl (by kernel_rfl) (fun _ _ _ h => h) rfl ?_ ?_
        rotate_left
        · (intro w'; go_simp; try with_reducible rfl)
        try simp only [Act.put, List.getElem_toArray, List.getElem_cons_succ, List.getElem_cons_zero, List.setIfInBounds_toArray, List.set_cons_zero, List.set_cons_succ]
        refine AnyG.enter (fun w' : World => Below U.heap.size U w') (fun i => i != 16 && i != 17 && i != 18) ?_
        have hS : (fun w' : World => Below U.heap.size U w') (World.drew _) := (Below.refl _ _).drew
        refine AnyG.takeC (i := 1) (v := ?_) rfl (by kernel_rfl) (fun _ _ _ h => h) rfl ?_ hS ?_
        rotate_left
        · (intro w' hSw; (try dsimp only at hSw); obtain ⟨x0, x1, x2, x3, x4, x5, x6, xf, xz⟩ := (kU.call hSw).seven; go_simp; try with_reducible rfl)
        try simp only [Act.put, List.getElem_toArray, List.getElem_cons_succ, List.getElem_cons_zero, List.setIfInBounds_toArray, List.set_cons_zero, List.set_cons_succ]
        refine AnyG.takeC (i := 6) (v := ?_) rfl (by kernel_rfl) (fun _ _ _ h => h) rfl ?_ hS ?_
        rotate_left
        · (intro w' hSw; (try dsimp only at hSw); have p0 := cellC hSw d0; have p1 := cellC hSw d1; have p2 := cellC hSw d2; go_simp; try with_reducible rfl)
        try simp only [Act.put, List.getElem_toArray, List.getElem_cons_succ, List.getElem_cons_zero, List.setIfInBounds_toArray, List.set_cons_zero, List.set_cons_succ]
        refine AnyG.takeC (i := 12) (v := ?_) rfl (by kernel_rfl) (fun _ _ _ h => h) rfl ?_ hS ?_
        rotate_left
        · (intro w' hSw; (try dsimp only at hSw); have p0 := cellC hSw d0; have p1 := cellC hSw d1; have p2 := cellC hSw d2; go_simp; try with_reducible rfl)
        try simp only [Act.put, List.getElem_toArray, List.getElem_cons_succ, List.getElem_cons_zero, List.setIfInBounds_toArray, List.set_cons_zero, List.set_cons_succ]
        refine AnyG.one (i := 7) (by kernel_rfl) rfl rfl ?_
        try dsimp only at hS
        obtain ⟨y0, hy0⟩ : ∃ y, U.drew = y := ⟨_, rfl⟩
        rw [hy0] at hS ⊢
        clear hy0
        go_simp
        have e31 := World.ownsRow_made (w := y0) (base := U.heap.size) (e := 75) (size := 3) #[] 0 hS.size (by unfold maxLen; omega) (by simp)
        have hT := hS.alloc hS.size (.cells #[] 75)
        obtain ⟨z7, hy⟩ : ∃ x, y0.alloc (.cells #[] 75) = x := ⟨_, rfl⟩
        rw [hy] at e31 hT ⊢
        obtain ⟨b31, hbq⟩ : ∃ p, y0.heap.size = p := ⟨_, rfl⟩
        rw [hbq] at e31 ⊢
        clear hy hbq
        refine Onward.on hT (fun hS2 => ?_)
        clear hS
        have hS := hS2
        clear hS2
        try simp only [Act.put, List.getElem_toArray, List.getElem_cons_succ, List.getElem_cons_zero, List.setIfInBounds_toArray, List.set_cons_zero, List.set_cons_succ]
        refine AnyG.one (i := 13) (by kernel_rfl) rfl rfl ?_
        refine wp_app3 (.tmp 31) (.tmp 36) 71 rfl U.heap.size 75 i75 _ 3 24 Try.underlying71 hi75 hz75 hs75 iy75 rfl (by decide) (.slice (some ⟨b31, 0, none⟩) 0 0) 0 [] (by simp [Act.eval]) e31 G gn gc (b.lv.map lvr).flatten (by simp [Act.eval]) HGL.out (sl_cells (hGU.call hS) ⟨by decide, lvr_three _⟩) (one_of (lvr_one _)) (by unfold maxLen; omega) (by omega) hS.size ?_
        intro v13 z13 o13 g13 x13 r13
        rw [Nat.zero_add, List.nil_append] at o13
        obtain ⟨A13, c13, rfl⟩ := own_shape o13
        refine Onward.on (hS.grown g13 hS.size (fun q e => (e31.lt q e).1)) (fun hS2 => ?_)
        clear hS
        have hS := hS2
        clear hS2
        try simp only [Act.put, List.getElem_toArray, List.getElem_cons_succ, List.getElem_cons_zero, List.setIfInBounds_toArray, List.set_cons_zero, List.set_cons_succ]
        refine AnyG.takeC (i := 14) (v := ?_) rfl (by kernel_rfl) (fun _ _ _ h => h) rfl ?_ hS ?_
        rotate_left
        · (intro w' hSw; (try dsimp only at hSw); go_simp; try with_reducible rfl)
        try simp only [Act.put, List.getElem_toArray, List.getElem_cons_succ, List.getElem_cons_zero, List.setIfInBounds_toArray, List.set_cons_zero, List.set_cons_succ]
        refine AnyG.one (i := 15) (by kernel_rfl) rfl rfl ?_
        go_simp
        have kn := Bx.new z13 73 #[.int .i64 b.t0, .int .i64 b.t1, .slice A13 gn c13]
        have o13b := o13.alloc (.cells #[.int .i64 b.t0, .int .i64 b.t1, .slice A13 gn c13] 73)
        have hz13 := hS.size
        have J15 := HC.out.bel (hS.alloc hS.size (.cells #[.int .i64 b.t0, .int .i64 b.t1, .slice A13 gn c13] 73))
        have IO8 := J15.os
        rw [HSL.out] at IO8
        refine Onward.on (hS.alloc hS.size _) (fun hS2 => ?_)
        clear hS
        have hS := hS2
        clear hS2
        try simp only [Act.put, List.getElem_toArray, List.getElem_cons_succ, List.getElem_cons_zero, List.setIfInBounds_toArray, List.set_cons_zero, List.set_cons_succ]
        refine AnyG.one (i := 16) (by kernel_rfl) rfl rfl ?_
        refine wp_app2 (.tmp 25) (.tmp 39) 23 rfl w.heap.size 73 i73 _ 3 40 Try.underlying23 hi73 hz73 hs73 iy73 rfl (by decide) (.slice SA2 i sc2) i rs.flatten (by simp [Act.eval]) IO8 ⟨z13.heap.size, 0, none⟩ 1 1 [.int .i64 b.t0, .int .i64 b.t1, .slice A13 gn c13] (by simp [Act.eval]) rfl (bx_news kn) (by simp [Value.oneCell']) (by unfold maxLen; omega) (by omega) (Nat.le_trans J15.hb.size (Nat.le_refl _)) ?_
        intro v' w' o1 o2 o3 o4
        obtain ⟨NA, NC, rfl⟩ := own_shape o1
        have k5 := J15.k.grown o2 (own_bx IO8 J15.k (by decide))
        refine Onward.last rfl ?_
        try simp only [Act.put, List.getElem_toArray, List.getElem_cons_succ, List.getElem_cons_zero, List.setIfInBounds_toArray, List.set_cons_zero, List.set_cons_succ]
        refine AnyG.one (i := 17) (by kernel_rfl) rfl rfl ?_
        go_simp
        refine Onward.last rfl ?_
        try simp only [Act.put, List.getElem_toArray, List.getElem_cons_succ, List.getElem_cons_zero, List.setIfInBounds_toArray, List.set_cons_zero, List.set_cons_succ]
        refine AnyG.one (i := 18) (by kernel_rfl) rfl rfl ?_
        obtain ⟨x0, x1, x2, x3, x4, x5, x6, xf, xz⟩ := k5.seven
        go_simp
        refine Onward.last rfl ?_
        try simp only [Act.put, List.getElem_toArray, List.getElem_cons_succ, List.getElem_cons_zero, List.setIfInBounds_toArray, List.set_cons_zero, List.set_cons_succ]
        refine AnyG.done (by kernel_rfl) ?_ _
        go_simp
        have hn2 := HGN.out
        have o13w := own_down o13b hBs
        have JF := J15.sill (y := b) (n := gn) (c := c13) (A := A13) o2 (by rw [HSL.out]; exact o1) hn2 o13w (Apt2.snoc HC.out.ap HC.out.so o13 _ _)
        have k2e := ((k2.call hS).grown o2 (own_bx IO8 (k2.call hS) (by decide))).far (p := ⟨q1, 5, none⟩) (by show q2 ≠ q1; omega) (.slice NA (i + 1) NC)
        rw [← HTK.out] at JF
        clear hS x0 x1 x2 x3 x4 x5 x6 xf xz
        go_wp2_with fail
        go_roundw
        case rel => exact ⟨i + 1, NA, NC, rs ++ [[.int .i64 b.t0, .int .i64 b.t1, .slice A13 gn c13]], by go_num, by omega, JF, k2e⟩
        case measure => simp [intOf]; omega
      · obtain rfl : i = p.sn := by omega
        have htk : v.ss.take p.sn = v.ss := List.take_of_length_le (by rw [HSS.out]; exact Nat.le_refl _)
        rw [htk] at C
        have HC := Lib.hid C
        have k1 := C.k
        have hSn := HSS.out
        obtain ⟨l0, l1, l2, l3, l4, l5, l6, lf', lz⟩ := k1.seven
        obtain ⟨r0, r1, r2, r3, r4, r5, r6, rf, rz⟩ := k2.seven
        clear htk C hSn
        go_wp2_with fail
        have fA := (((((((k2.set_ 0 (.int .i64 v.li)).set_ 1 (.int .i64 v.un)).set_ 2 (.int .i64 v.tr)).set_ 3 (.slice A3 p.hn c3)).set_ 4 (.int .i64 v.le)).set_ 5 (.slice SA2 p.sn sc2)).set_ 6 (.slice A7 p.ln c7))
        simp only [List.setIfInBounds_toArray, List.set_cons_zero, List.set_cons_succ] at fA
        have fG := grownF_trans (grownF_trans (grownF_trans (grownF_trans (grownF_trans (grownF_trans (grown_set U q2 0 (.int .i64 v.li)) (grown_set _ q2 1 (.int .i64 v.un))) (grown_set _ q2 2 (.int .i64 v.tr))) (grown_set _ q2 3 (.slice A3 p.hn c3))) (grown_set _ q2 4 (.int .i64 v.le))) (grown_set _ q2 5 (.slice SA2 p.sn sc2))) (grown_set _ q2 6 (.slice A7 p.ln c7))
        obtain ⟨Z, hZ⟩ : ∃ Z, (((((((U.setCell ⟨q2, 0, none⟩ (.int .i64 v.li)).setCell ⟨q2, 1, none⟩ (.int .i64 v.un)).setCell ⟨q2, 2, none⟩ (.int .i64 v.tr)).setCell ⟨q2, 3, none⟩ (.slice A3 p.hn c3)).setCell ⟨q2, 4, none⟩ (.int .i64 v.le)).setCell ⟨q2, 5, none⟩ (.slice SA2 p.sn sc2)).setCell ⟨q2, 6, none⟩ (.slice A7 p.ln c7)) = Z := ⟨_, rfl⟩
        rw [hZ] at fA fG ⊢
        clear hZ
        obtain ⟨s0, s1, s2, s3, s4, s5, s6, sf, sz⟩ := fA.seven
        have oh := HC.out.oh.kept fG (.inr fun e => own_bx HC.out.oh k2 (by decide) e.symm)
        have os := HC.out.os.kept fG (.inr fun e => own_bx HC.out.os k2 (by decide) e.symm)
        have ol := HC.out.ol.kept fG (.inr fun e => own_bx HC.out.ol k2 (by decide) e.symm)
        have so := HC.out.so.kept fG fun v n xs o => .inr fun e => own_bx o k2 (by decide) e.symm
        rw [HHL.out] at oh
        rw [HSS.out] at os
        rw [HLL.out] at ol
        have hB := HC.out.hb.grown fG HC.out.hb.size (fun k e => by cases e; omega)
        exact bodyPost_ret (v := .agg #[.int .i64 v.li, .int .i64 v.un, .int .i64 v.tr, .slice A3 p.hn c3, .int .i64 v.le, .slice SA2 p.sn sc2, .slice A7 p.ln c7]) (by simp [results, Try.results22, go_sem, s0, s1, s2, s3, s4, s5, s6]) rfl ⟨A3, c3, SA2, sc2, A7, c7, rs, rfl, oh, os, so, HC.out.ap, ol, hB⟩
/-- The copy, as a voyage in memory. -/
theorem voy_own {w' : World} {B : Nat} {v : Vg} {p : Vp} {HA SA LA : Option Addr} {hc sc lc : Nat} {rs : List (List Value)} (hl : v.hs.length = p.hn) (sl : v.ss.length = p.sn) (ll : v.ls.length = p.ln) (oh : w'.ownsRow B 85 3 (.slice HA p.hn hc) p.hn (v.hs.map hdr).flatten) (os : w'.ownsRow B 73 3 (.slice SA p.sn sc) p.sn rs.flatten) (so : SisOwn w' B rs v.ss) (ol : w'.ownsRow B 70 3 (.slice LA p.ln lc) p.ln (v.ls.map cgr).flatten) :
    VoyAt w' w'.heap.size v ⟨HA, p.hn, hc, SA, p.sn, sc, LA, p.ln, lc⟩ :=
  ⟨hl, sl, ll, own_rows oh (hdr_three _) (by simpa using hl), so.at_ os sl, own_rows ol (cgr_three _) (by simpa using ll)⟩
end Go.Proofs.Ytfcpjkofbejleaa
