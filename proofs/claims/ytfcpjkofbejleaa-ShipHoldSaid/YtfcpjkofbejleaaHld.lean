/- ShipHold. -/
import Derived.Test.YtfcpjkofbejleaaXvM
set_option linter.unusedSimpArgs false
set_option linter.unusedVariables false
namespace Go.Proofs.Ytfcpjkofbejleaa
open Go Go.RowKit
set_option maxRecDepth 100000 in
set_option maxHeartbeats 8000000 in
theorem shipHold_run (A : Option Addr) (n c : Nat) (L : List Int) (w : World) (hn : n ≤ 9000000000000000000) (hl : L.length = n) (hA : Sl w w.heap.size 1 A (ints L)) : Calls Try.prog 13 #[.slice A n c] w fun e w' => e = .returned (.bool true) ∧ Below w.heap.size w w' := by
  have HL := Lib.hid hl
  clear hl
  obtain ⟨i3, hi3, hz3, hs3, iy3⟩ := info_parts info3'
  go_enter Try.func13, Try.ntmps13
  go_upto_region 3 with (first
    | (go_at_call 16; refine (feedOf_any A n c L _ hn HL.out hA).mono ?_; rintro e w1 ⟨⟨g, rfl, hg0, hfd⟩, hb1⟩)
    | (go_at_call 18; have U1 := (FT.self hfd).alloc (.cells #[.int .i64 4, .int .i64 30] 3); refine (either_any g w1.heap.size 2 #[.int .i64 4, .int .i64 30] (fun z => z = 4 ∨ z = 30) _ U1.2 (Bx.new w1 3 _) (by have := hfd.lt; omega) (by omega) (by omega) (bx2 _ (by omega) (by omega))).mono ?_; rintro e w2 ⟨⟨T, rfl, hT⟩, hf2, hg2⟩; have U2 := U1.call hg2 hf2; clear hf2 hg2 U1)
    | (go_at_call 17; refine (voyageOf_any g 2 2 4 T _ U2.2 (by omega) (by omega) (by omega) (by omega) (by omega) (by omega) (by omega) (by omega)).mono ?_; rintro e w3 ⟨⟨v, p, hsm, hFit, rfl, hV0⟩, hU3⟩; have U3 : FT g w1 w3 := ⟨grownF_trans U2.1 hU3.1, hU3.2⟩; rw [vcs_def]; clear hU3 U2)
    | fail)
  have hok := hsm.ok (by omega) (by omega) (by omega) (by omega)
  have hck := hsm.ck (by omega) (by omega) (by omega) (by omega)
  have hlf := hsm.lf
  have HSM := Lib.hid hsm
  have HOK := Lib.hid hok
  have HCK := Lib.hid hck
  have HLF := Lib.hid hlf
  have HFT := Lib.hid hFit
  have hln6 : p.ln ≤ 6 := by rw [← hV0.ll]; exact hok.l6
  have hsn4 : p.sn ≤ 4 := by rw [← hV0.sl]; exact hok.s4
  have hhn3 : p.hn ≤ 3 := by rw [← hV0.hl]; exact hok.h3
  have hhn1 : 1 ≤ p.hn := by rw [← hV0.hl]; exact hok.h1
  have B1 := (Below.refl w3.heap.size w3).alloc (Nat.le_refl _) (.cells #[.int .i64 v.li, .int .i64 v.un, .int .i64 v.tr, .slice p.HA p.hn p.hc, .int .i64 v.le, .slice p.SA p.sn p.sc, .slice p.LA p.ln p.lc] 26)
  have kO := Bx.new w3 26 #[.int .i64 v.li, .int .i64 v.un, .int .i64 v.tr, .slice p.HA p.hn p.hc, .int .i64 v.le, .slice p.SA p.sn p.sc, .slice p.LA p.ln p.lc]
  have hO := hV0.call B1
  have U4 := U3.alloc (.cells #[.int .i64 v.li, .int .i64 v.un, .int .i64 v.tr, .slice p.HA p.hn p.hc, .int .i64 v.le, .slice p.SA p.sn p.sc, .slice p.LA p.ln p.lc] 26)
  have hgl := U3.2.lt
  have hw13 := U3.size
  obtain ⟨V1, hV1⟩ : ∃ V, w3.alloc (.cells #[.int .i64 v.li, .int .i64 v.un, .int .i64 v.tr, .slice p.HA p.hn p.hc, .int .i64 v.le, .slice p.SA p.sn p.sc, .slice p.LA p.ln p.lc] 26) = V := ⟨_, rfl⟩
  rw [hV1] at kO hO U4 ⊢
  obtain ⟨bO, hbO⟩ : ∃ b, w3.heap.size = b := ⟨_, rfl⟩
  rw [hbO] at kO hgl ⊢
  have hgO : bO ≠ g := by omega
  clear hV1 hbO B1 hV0 U3 hsm hok hck hlf hFit hw13
  have hBV := U4.be hb1 hg0
  have hFV := U4.2
  clear hb1 hfd U4
  obtain ⟨i85, hi85, hz85, hs85, iy85⟩ := info_parts info85
  have HHL := Lib.hid hO.hl
  have HSS := Lib.hid hO.sl
  have HLL := Lib.hid hO.ll
  have hh2 : p.hn ≤ 2 := by have := HSM.out.hn; rw [HHL.out] at this; omega
  have hTb : T ≤ 30 := by omega
  have hT0 : 0 ≤ T := by omega
  obtain ⟨l0, l1, l2, l3, l4, l5, l6, lf', lz⟩ := kO.seven
  go_upto_region 4 with (first
    | (go_at_call 22; refine (copyVoyage_any v p _ HOK.out hO).mono ?_; rintro e y3 ⟨HA, hc, SA, sc, LA, lc, rs, rfl, oh, os, so, ap, ol, hq3⟩)
    | fail)
  clear l0 l1 l2 l3 l4 l5 l6 lf' lz
  obtain ⟨hq, rfl⟩ := own_some oh (by omega)
  have C0 : CV V1 y3.heap.size v.li v.un v.tr v.le v.hs v.ss v.ls (.slice (some ⟨hq, 0, none⟩) p.hn hc) (.slice SA p.sn sc) (.slice LA p.ln lc) rs (y3.alloc (.cells #[.int .i64 v.li, .int .i64 v.un, .int .i64 v.tr, .slice (some ⟨hq, 0, none⟩) p.hn hc, .int .i64 v.le, .slice SA p.sn sc, .slice LA p.ln lc] 26)) :=
    ⟨Bx.new _ _ _, by rw [HHL.out]; exact oh.alloc _, by rw [HSS.out]; exact os.alloc _, so.bel (bel1 _ _), ap, by rw [HLL.out]; exact ol.alloc _, hq3.alloc hq3.size _, hq3.size⟩
  have X0 := XV.of C0 hFV
  obtain ⟨q5, hq5⟩ : ∃ q, y3.heap.size = q := ⟨_, rfl⟩
  obtain ⟨U0, hU0⟩ : ∃ U, y3.alloc (.cells #[.int .i64 v.li, .int .i64 v.un, .int .i64 v.tr, .slice (some ⟨hq, 0, none⟩) p.hn hc, .int .i64 v.le, .slice SA p.sn sc, .slice LA p.ln lc] 26) = U := ⟨_, rfl⟩
  rw [hU0] at X0 ⊢
  rw [hq5] at X0 ⊢
  clear hU0 hq5 C0 oh os so ap ol hq3
  have hz0 : ∃ z, v.hs[0]? = some z := ⟨_, List.getElem?_eq_getElem (by rw [HHL.out]; omega)⟩
  obtain ⟨z, hz⟩ := hz0
  have hzs := HSM.out.hs z (List.mem_of_getElem? hz)
  have HZ0 := Lib.hid hz
  clear hz
  go_upto_if 28 with (first
    | (go_at_call 51; refine (often_any g 1 2 _ X0.ft.2 (by omega) (by omega)).mono ?_; rintro e U ⟨⟨ob, rfl⟩, hf4, hg4⟩)
    | fail)
  have XU := X0.go ⟨hg4, hf4⟩
  have hq5g := XU.hqg
  clear X0 hf4 hg4
  go_cut [5] (fun v5 x => v5 = .pointer (some ⟨q5, 0, none⟩) ∧ ∃ (hs' : List Hd) (HA' : Option Addr) (hn' hc' : Nat), hs'.length = hn' ∧ hn' ≤ 3 ∧ MoreH v.hs hs' ∧ (∀ h ∈ hs', h.Ok) ∧ XV g V1 q5 v.li v.un v.tr v.le hs' v.ss v.ls (.slice HA' hn' hc') (.slice SA p.sn sc) (.slice LA p.ln lc) rs x)
  case first =>
    cases ob
    · have hhn1 : 0 < p.hn := by omega
      go_wp2_with fail
      refine AnyG.startC (by kernel_rfl) ?_
      refine AnyG.takeP (i := 0) (v := ?_) rfl (by kernel_rfl) (fun _ _ _ h => h) rfl ?_ ?_
      rotate_left
      · (intro w'; go_simp; try with_reducible rfl)
      try simp only [Act.put, List.getElem_toArray, List.getElem_cons_succ, List.getElem_cons_zero, List.setIfInBounds_toArray, List.set_cons_zero, List.set_cons_succ]
      refine AnyG.takeP (i := 2) (v := ?_) rfl (by kernel_rfl) (fun _ _ _ h => h) rfl ?_ ?_
      rotate_left
      · (intro w'; go_simp; try with_reducible rfl)
      try simp only [Act.put, List.getElem_toArray, List.getElem_cons_succ, List.getElem_cons_zero, List.setIfInBounds_toArray, List.set_cons_zero, List.set_cons_succ]
      refine AnyG.takeP (i := 7) (v := ?_) rfl (by kernel_rfl) (fun _ _ _ h => h) rfl ?_ ?_
      rotate_left
      · (intro w'; go_simp; try with_reducible rfl)
      try simp only [Act.put, List.getElem_toArray, List.getElem_cons_succ, List.getElem_cons_zero, List.setIfInBounds_toArray, List.set_cons_zero, List.set_cons_succ]
      refine AnyG.enter (fun w' : World => FT g U w') (fun i => i != 12) ?_
      have hS : (fun w' : World => FT g U w') (World.drew _) := (FT.self XU.ft.2).drew
      refine AnyG.takeC (i := 1) (v := ?_) rfl (by kernel_rfl) (fun _ _ _ h => h) rfl ?_ hS ?_
      rotate_left
      · (intro w' hSw; (try dsimp only at hSw); obtain ⟨x0, x1, x2, x3, x4, x5, x6, xf, xz⟩ := (XU.go hSw).k.seven; go_simp; try with_reducible rfl)
      try simp only [Act.put, List.getElem_toArray, List.getElem_cons_succ, List.getElem_cons_zero, List.setIfInBounds_toArray, List.set_cons_zero, List.set_cons_succ]
      refine AnyG.takeC (i := 3) (v := ?_) rfl (by kernel_rfl) (fun _ _ _ h => h) rfl ?_ hS ?_
      rotate_left
      · (intro w' hSw; (try dsimp only at hSw); obtain ⟨x0, x1, x2, x3, x4, x5, x6, xf, xz⟩ := (XU.go hSw).k.seven; go_simp; try with_reducible rfl)
      try simp only [Act.put, List.getElem_toArray, List.getElem_cons_succ, List.getElem_cons_zero, List.setIfInBounds_toArray, List.set_cons_zero, List.set_cons_succ]
      refine AnyG.takeC (i := 4) (v := ?_) rfl (by kernel_rfl) (fun _ _ _ h => h) rfl ?_ hS ?_
      rotate_left
      · (intro w' hSw; (try dsimp only at hSw); go_simp; try with_reducible rfl)
      try simp only [Act.put, List.getElem_toArray, List.getElem_cons_succ, List.getElem_cons_zero, List.setIfInBounds_toArray, List.set_cons_zero, List.set_cons_succ]
      refine AnyG.takeC (i := 5) (v := ?_) rfl (by kernel_rfl) (fun _ _ _ h => h) rfl ?_ hS ?_
      rotate_left
      · (intro w' hSw; (try dsimp only at hSw); go_simp; try with_reducible rfl)
      try simp only [Act.put, List.getElem_toArray, List.getElem_cons_succ, List.getElem_cons_zero, List.setIfInBounds_toArray, List.set_cons_zero, List.set_cons_succ]
      refine AnyG.takeC (i := 6) (v := ?_) rfl (by kernel_rfl) (fun _ _ _ h => h) rfl ?_ hS ?_
      rotate_left
      · (intro w' hSw; (try dsimp only at hSw); have p0 := (hold_cells (XU.go hSw).oh HZ0.out).1; rw [Nat.zero_mul] at p0; go_simp; try with_reducible rfl)
      try simp only [Act.put, List.getElem_toArray, List.getElem_cons_succ, List.getElem_cons_zero, List.setIfInBounds_toArray, List.set_cons_zero, List.set_cons_succ]
      refine AnyG.one (i := 8) (by kernel_rfl) rfl rfl ?_
      go_simp
      refine (below_any g 20 _ hS.2 (by omega) (by omega)).mono ?_
      rintro er y8 ⟨⟨dd, rfl, dd1, dd2⟩, hfx, hgx⟩
      have Q8 := hS.call hgx hfx
      have wrm : IntKind.i64.wrap (z.rm + dd) = z.rm + dd := IntWalk.i64_in _ (by omega)
      refine Onward.on Q8 (fun hS2 => ?_)
      clear hS
      have hS := hS2
      clear hS2
      try simp only [Act.put, List.getElem_toArray, List.getElem_cons_succ, List.getElem_cons_zero, List.setIfInBounds_toArray, List.set_cons_zero, List.set_cons_succ]
      refine AnyG.takeC (i := 9) (v := ?_) rfl (by kernel_rfl) (fun _ _ _ h => h) rfl ?_ hS ?_
      rotate_left
      · (intro w' hSw; (try dsimp only at hSw); go_simp; try with_reducible rfl)
      try simp only [Act.put, List.getElem_toArray, List.getElem_cons_succ, List.getElem_cons_zero, List.setIfInBounds_toArray, List.set_cons_zero, List.set_cons_succ]
      refine AnyG.one (i := 10) (by kernel_rfl) rfl rfl ?_
      go_simp
      refine Onward.on hS (fun hS2 => ?_)
      clear hS
      have hS := hS2
      clear hS2
      try simp only [Act.put, List.getElem_toArray, List.getElem_cons_succ, List.getElem_cons_zero, List.setIfInBounds_toArray, List.set_cons_zero, List.set_cons_succ]
      refine AnyG.one (i := 11) (by kernel_rfl) rfl rfl ?_
      go_simp
      refine Onward.on hS (fun hS2 => ?_)
      clear hS
      have hS := hS2
      clear hS2
      try simp only [Act.put, List.getElem_toArray, List.getElem_cons_succ, List.getElem_cons_zero, List.setIfInBounds_toArray, List.set_cons_zero, List.set_cons_succ]
      refine AnyG.one (i := 12) (by kernel_rfl) rfl rfl ?_
      have X8 := XU.go Q8
      obtain ⟨p0, _, _, pf⟩ := hold_cells X8.oh HZ0.out
      rw [Nat.zero_mul] at p0
      go_simp
      refine Onward.last rfl ?_
      try simp only [Act.put, List.getElem_toArray, List.getElem_cons_succ, List.getElem_cons_zero, List.setIfInBounds_toArray, List.set_cons_zero, List.set_cons_succ]
      refine AnyG.done (by kernel_rfl) ?_ _
      have OP := hold_store X8.oh HHL.out HZ0.out (j := 0) (z' := ⟨z.rm + dd, z.bw, z.st⟩) (u := .int .i64 (z.rm + dd)) (by decide) rfl
      rw [Nat.zero_mul, Nat.zero_add] at OP
      have XP := X8.put (grown_set y8 hq 0 (.int .i64 (z.rm + dd))) OP
      go_simp
      go_wp2_with fail
      go_meet
      refine ⟨rfl, _, _, _, _, by rw [List.length_set]; exact HHL.out, by omega, moreH_set HZ0.out dd1, fun h hh => ?_, XP⟩
      rcases List.mem_or_eq_of_mem_set hh with hh | rfl
      · exact HOK.out.hs h hh
      · exact ⟨by dsimp only; omega, by dsimp only; omega, by dsimp only; omega⟩
    · go_wp2_with fail
      refine AnyG.startC (by kernel_rfl) ?_
      refine AnyG.takeP (i := 0) (v := ?_) rfl (by kernel_rfl) (fun _ _ _ h => h) rfl ?_ ?_
      rotate_left
      · (intro w'; go_simp; try with_reducible rfl)
      try simp only [Act.put, List.getElem_toArray, List.getElem_cons_succ, List.getElem_cons_zero, List.setIfInBounds_toArray, List.set_cons_zero, List.set_cons_succ]
      refine AnyG.takeP (i := 2) (v := ?_) rfl (by kernel_rfl) (fun _ _ _ h => h) rfl ?_ ?_
      rotate_left
      · (intro w'; go_simp; try with_reducible rfl)
      try simp only [Act.put, List.getElem_toArray, List.getElem_cons_succ, List.getElem_cons_zero, List.setIfInBounds_toArray, List.set_cons_zero, List.set_cons_succ]
      refine AnyG.takeP (i := 4) (v := ?_) rfl (by kernel_rfl) (fun _ _ _ h => h) rfl ?_ ?_
      rotate_left
      · (intro w'; go_simp; try with_reducible rfl)
      try simp only [Act.put, List.getElem_toArray, List.getElem_cons_succ, List.getElem_cons_zero, List.setIfInBounds_toArray, List.set_cons_zero, List.set_cons_succ]
      refine AnyG.takeP (i := 6) (v := ?_) rfl (by kernel_rfl) (fun _ _ _ h => h) rfl ?_ ?_
      rotate_left
      · (intro w'; go_simp; try with_reducible rfl)
      try simp only [Act.put, List.getElem_toArray, List.getElem_cons_succ, List.getElem_cons_zero, List.setIfInBounds_toArray, List.set_cons_zero, List.set_cons_succ]
      refine AnyG.enter (fun w' : World => Bx w' q5 26 #[.int .i64 v.li, .int .i64 v.un, .int .i64 v.tr, .slice (some ⟨hq, 0, none⟩) p.hn hc, .int .i64 v.le, .slice SA p.sn sc, .slice LA p.ln lc] ∧ FT g U w') (fun i => i != 10 && i != 11 && i != 12) ?_
      have hS : (fun w' : World => Bx w' q5 26 #[.int .i64 v.li, .int .i64 v.un, .int .i64 v.tr, .slice (some ⟨hq, 0, none⟩) p.hn hc, .int .i64 v.le, .slice SA p.sn sc, .slice LA p.ln lc] ∧ FT g U w') (World.drew _) := ⟨XU.k.drew, (FT.self XU.ft.2).drew⟩
      refine AnyG.takeC (i := 1) (v := ?_) rfl (by kernel_rfl) (fun _ _ _ h => h) rfl ?_ hS ?_
      rotate_left
      · (intro w' hSw; (try dsimp only at hSw); obtain ⟨x0, x1, x2, x3, x4, x5, x6, xf, xz⟩ := hSw.1.seven; go_simp; try with_reducible rfl)
      try simp only [Act.put, List.getElem_toArray, List.getElem_cons_succ, List.getElem_cons_zero, List.setIfInBounds_toArray, List.set_cons_zero, List.set_cons_succ]
      refine AnyG.one (i := 3) (by kernel_rfl) rfl rfl ?_
      go_simp
      refine (below_any g 40 _ hS.2.2 (by omega) (by omega)).mono ?_
      rintro er y3a ⟨⟨rm, rfl, rm1, rm2⟩, hfx, hgx⟩
      have Q3 : FT g U y3a := hS.2.call hgx hfx
      refine Onward.on ⟨FT.bx ⟨hgx, hfx⟩ hS.1 hq5g, Q3⟩ (fun hS2 => ?_)
      clear hS
      have hS := hS2
      clear hS2
      try simp only [Act.put, List.getElem_toArray, List.getElem_cons_succ, List.getElem_cons_zero, List.setIfInBounds_toArray, List.set_cons_zero, List.set_cons_succ]
      refine AnyG.one (i := 5) (by kernel_rfl) rfl rfl ?_
      go_simp
      refine (below_any g 1500 _ hS.2.2 (by omega) (by omega)).mono ?_
      rintro er y5a ⟨⟨bw, rfl, bw1, bw2⟩, hfx, hgx⟩
      have Q5 : FT g U y5a := hS.2.call hgx hfx
      refine Onward.on ⟨FT.bx ⟨hgx, hfx⟩ hS.1 hq5g, Q5⟩ (fun hS2 => ?_)
      clear hS
      have hS := hS2
      clear hS2
      try simp only [Act.put, List.getElem_toArray, List.getElem_cons_succ, List.getElem_cons_zero, List.setIfInBounds_toArray, List.set_cons_zero, List.set_cons_succ]
      refine AnyG.one (i := 7) (by kernel_rfl) rfl rfl ?_
      go_simp
      refine (below_any g 1500 _ hS.2.2 (by omega) (by omega)).mono ?_
      rintro er y7a ⟨⟨st, rfl, st1, st2⟩, hfx, hgx⟩
      have Q7 : FT g U y7a := hS.2.call hgx hfx
      refine Onward.on ⟨FT.bx ⟨hgx, hfx⟩ hS.1 hq5g, Q7⟩ (fun hS2 => ?_)
      clear hS
      have hS := hS2
      clear hS2
      try simp only [Act.put, List.getElem_toArray, List.getElem_cons_succ, List.getElem_cons_zero, List.setIfInBounds_toArray, List.set_cons_zero, List.set_cons_succ]
      refine AnyG.takeC (i := 8) (v := ?_) rfl (by kernel_rfl) (fun _ _ _ h => h) rfl ?_ hS ?_
      rotate_left
      · (intro w' hSw; (try dsimp only at hSw); go_simp; try with_reducible rfl)
      try simp only [Act.put, List.getElem_toArray, List.getElem_cons_succ, List.getElem_cons_zero, List.setIfInBounds_toArray, List.set_cons_zero, List.set_cons_succ]
      refine AnyG.one (i := 9) (by kernel_rfl) rfl rfl ?_
      have kn := Bx.new y7a 85 #[.int .i64 rm, .int .i64 bw, .int .i64 st]
      go_simp
      have Q9 := Q7.alloc (.cells #[.int .i64 rm, .int .i64 bw, .int .i64 st] 85)
      have X9 := XU.go Q9
      have IO8 := X9.oh
      rw [HHL.out] at IO8
      refine Onward.on ⟨hS.1.alloc _, hS.2.alloc _⟩ (fun hS2 => ?_)
      clear hS
      have hS := hS2
      clear hS2
      try simp only [Act.put, List.getElem_toArray, List.getElem_cons_succ, List.getElem_cons_zero, List.setIfInBounds_toArray, List.set_cons_zero, List.set_cons_succ]
      refine AnyG.one (i := 10) (by kernel_rfl) rfl rfl ?_
      refine wp_app2 (.tmp 30) (.tmp 38) 22 rfl V1.heap.size 85 i85 _ 3 24 Try.underlying22 hi85 hz85 hs85 iy85 rfl (by decide) (.slice (some ⟨hq, 0, none⟩) p.hn hc) p.hn (v.hs.map hdr).flatten (by simp [Act.eval]) IO8 ⟨y7a.heap.size, 0, none⟩ 1 1 [.int .i64 rm, .int .i64 bw, .int .i64 st] (by simp [Act.eval]) rfl (bx_news kn) (by simp [Value.oneCell']) (by unfold maxLen; omega) (by omega) X9.ft.size ?_
      intro v' w' o1 o2 o3 o4
      obtain ⟨NA, NC, rfl⟩ := own_shape o1
      have k9 := X9.k.grown o2 (own_bx IO8 X9.k (by decide))
      refine Onward.last rfl ?_
      try simp only [Act.put, List.getElem_toArray, List.getElem_cons_succ, List.getElem_cons_zero, List.setIfInBounds_toArray, List.set_cons_zero, List.set_cons_succ]
      refine AnyG.one (i := 11) (by kernel_rfl) rfl rfl ?_
      go_simp
      refine Onward.last rfl ?_
      try simp only [Act.put, List.getElem_toArray, List.getElem_cons_succ, List.getElem_cons_zero, List.setIfInBounds_toArray, List.set_cons_zero, List.set_cons_succ]
      refine AnyG.one (i := 12) (by kernel_rfl) rfl rfl ?_
      obtain ⟨x0, x1, x2, x3, x4, x5, x6, xf, xz⟩ := k9.seven
      go_simp
      refine Onward.last rfl ?_
      try simp only [Act.put, List.getElem_toArray, List.getElem_cons_succ, List.getElem_cons_zero, List.setIfInBounds_toArray, List.set_cons_zero, List.set_cons_succ]
      refine AnyG.done (by kernel_rfl) ?_ _
      have XP := X9.hold (z := ⟨rm, bw, st⟩) o2 (by rw [HHL.out]; exact o1)
      go_simp
      go_wp2_with fail
      go_meet
      refine ⟨rfl, _, _, _, _, by rw [List.length_append, HHL.out]; rfl, by simp; omega, moreH_snoc _ rm1, fun h hh => ?_, XP⟩
      rcases List.mem_append.1 hh with hh | hh
      · exact HOK.out.hs h hh
      · obtain rfl := List.mem_singleton.1 hh
        exact ⟨by dsimp only; omega, by dsimp only; omega, by dsimp only; omega⟩
  case rest =>
    obtain ⟨rfl, hs', HA', hn', hc', hl', hn3, hmo, hhok, X⟩ := hcut
    have hxo : Vg.Ok ⟨v.li, v.un, v.tr, v.le, hs', v.ss, v.ls⟩ := ⟨HOK.out.li, HOK.out.un, HOK.out.tr, HOK.out.le, by have := hmo.len; have := HOK.out.h1; dsimp only; omega, by dsimp only; omega, hhok, HOK.out.s4, HOK.out.ss, HOK.out.l6, HOK.out.ls⟩
    have hxc := ok_ck hxo (fun s hs => (HSM.out.ss s hs).2.2.2.2.2.zero)
    have hxv := X.voy rfl rfl rfl hl' HSS.out HLL.out
    have hxf : Vp.Fit ⟨HA', hn', hc', SA, p.sn, sc, LA, p.ln, lc⟩ := ⟨by dsimp only; omega, by dsimp only; omega, by dsimp only; omega⟩
    have HXC := Lib.hid hxc
    have HXF := Lib.hid hxf
    have HXL : Hid (LvFit ⟨v.li, v.un, v.tr, v.le, hs', v.ss, v.ls⟩) := Lib.hid HLF.out
    have hcmp := fun (s : List Int) (hb : bestM v = some s) => moreH_best HOK.out hxo hmo hb
    have HCMP := Lib.hid hcmp
    have kv := X.ft.bx kO hgO
    have kx := X.k
    have hvv := X.ft.voy hFV hO
    have hBw := X.ft.be hBV hg0
    obtain ⟨W, hW⟩ : ∃ W, wc = W := ⟨_, rfl⟩
    rw [hW] at kv kx hvv hxv hBw ⊢
    clear hW X hcmp hxo hxc hxf hmo hhok hl' kO hO hFV hBV
    obtain ⟨l0, l1, l2, l3, l4, l5, l6, lf', lz⟩ := kv.seven
    go_upto_region 8 with (first
      | (go_at_call 36; refine (best_any v p _ HFT.out HLF.out hvv).mono ?_; rintro e w8 ⟨hp8, hb8⟩; rw [if_pos HCK.out] at hp8; obtain ⟨A8, m8, c8, b8, rfl, hc8⟩ := best_post hp8)
      | fail)
    clear l0 l1 l2 l3 l4 l5 l6 lf' lz hp8
    have HC8 := Lib.hid hc8
    replace kv := kv.call hb8
    replace kx := kx.call hb8
    replace hvv := hvv.call hb8
    replace hxv := hxv.call hb8
    replace hBw := hBw.trans (hb8.mono hBw.size)
    clear hb8 hc8
    obtain ⟨l0, l1, l2, l3, l4, l5, l6, lf', lz⟩ := kx.seven
    go_upto_region 9 with (first
      | (go_at_call 36; refine (best_any ⟨v.li, v.un, v.tr, v.le, hs', v.ss, v.ls⟩ ⟨HA', hn', hc', SA, p.sn, sc, LA, p.ln, lc⟩ _ HXF.out HXL.out hxv).mono ?_; rintro e w9 ⟨hp9, hb9⟩; rw [if_pos HXC.out] at hp9; obtain ⟨A9, m9, c9, b9, rfl, hc9⟩ := best_post hp9)
      | fail)
    clear l0 l1 l2 l3 l4 l5 l6 lf' lz hp9
    replace kv := kv.call hb9
    replace hvv := hvv.call hb9
    replace hBw := hBw.trans (hb9.mono hBw.size)
    have hw0 := fun s => wor_nonneg HOK.out s
    rcases HC8.out with ⟨n1, rfl, rfl⟩ | ⟨s, n1, rfl, rfl, o8⟩
    · have hb9g : -1 ≤ b9 := by
        rcases hc9 with ⟨_, _, rfl⟩ | ⟨m, _, _, rfl, _⟩
        · exact Int.le_refl _
        · have := wor_nonneg (v := ⟨v.li, v.un, v.tr, v.le, hs', v.ss, v.ls⟩) (show Vg.Ok _ from ckV_ok HXC.out) m
          unfold woB
          omega
      have hf1 : (b9 < -1) = False := eq_false (by omega)
      clear n1 hc9 hw0 kx kv
      go_wp2_with (first | (go_at_call 15; refine (awake_any _).mono ?_; rintro e z3 ⟨rfl, hq3⟩) | fail)
      go_ret
      exact ⟨rfl, hBw.trans (hq3.mono hBw.size)⟩
    · obtain ⟨m, hm1, hm2⟩ := HCMP.out s n1
      have hb9e : b9 = woB ⟨v.li, v.un, v.tr, v.le, hs', v.ss, v.ls⟩ m := by
        rcases hc9 with ⟨e, _⟩ | ⟨m', e, _, h, _⟩
        · rw [hm1] at e; cases e
        · rw [hm1, Option.some.injEq] at e; subst e; exact h
      rw [← hb9e] at hm2
      have hs0 := hw0 s
      obtain ⟨hsm, hsok⟩ := bestM_some HOK.out n1
      obtain ⟨hsl, hsi⟩ := allS_inH HOK.out hsm
      have hst : ckSt v s = 0 := by
        have hr : roomOk v.hs (abd v.ls s) = true := by unfold okB at hsok; rw [Bool.and_eq_true, Bool.and_eq_true] at hsok; exact hsok.1.1
        unfold ckSt
        rw [if_neg (by rw [HCK.out]; simp), if_neg (by rw [hsl]; simp), if_neg (by rw [inHb_iff.2 hsi]; simp), if_neg (by rw [hr]; simp)]
      have hgo := room_good hst
      rw [hsok] at hgo
      obtain ⟨hl1, hp1⟩ := (Bool.and_eq_true _ _).mp hgo.symm
      have hv1 := (verd_pass (v := v) (L := abd v.ls s) (a := (salM v (abd v.ls s) true).length)).2 hp1
      have HL1 := Lib.hid hl1
      have HV1 := Lib.hid hv1
      have HST := Lib.hid hst
      have HSL := Lib.hid (show s.length = p.ln by rw [hsl, HLL.out])
      have o9 := own_inr (own_bel o8 hb9) HSL.out
      obtain ⟨wo, hwo⟩ : ∃ x, woB v s = x := ⟨_, rfl⟩
      rw [hwo] at hm2 ⊢
      have hwo0 : 0 ≤ wo := by rw [← hwo]; unfold woB; exact hs0
      have hf1 : (b9 < wo) = False := eq_false (by omega)
      have hf2 : (wo < -1) = False := eq_false (by omega)
      have hf3 : (wo < 0) = False := eq_false (by omega)
      clear n1 hc9 hw0 kx hb9e hm1 hm2 hs0 hsm hsok hsl hsi hst hgo hl1 hp1 hv1 hwo o8 hb9 hwo0
      obtain ⟨l0, l1, l2, l3, l4, l5, l6, lf', lz⟩ := kv.seven
      go_upto_region 14 with (first
        | (go_at_call 25; refine (level_any v p A8 p.ln c8 s _ HFT.out HLF.out hvv o9 HSL.out (by omega)).mono ?_; rintro e w13 ⟨rfl, hb13⟩; rw [if_pos HST.out, HL1.out])
        | fail)
      clear l0 l1 l2 l3 l4 l5 l6 lf' lz
      obtain ⟨t1, ht1⟩ : ∃ x, (tiltP v.hs (abd v.ls s)).1 = x := ⟨_, rfl⟩
      obtain ⟨t2, ht2⟩ : ∃ x, (tiltP v.hs (abd v.ls s)).2 = x := ⟨_, rfl⟩
      try rw [ht1, ht2]
      clear ht1 ht2
      have hb13b := hb13.alloc hb13.size (.cells #[.int .i64 t1, .int .i64 t2] 41)
      replace kv := kv.call hb13b
      replace hvv := hvv.call hb13b
      replace o9 := o9.call hb13b
      replace hBw := hBw.trans (hb13b.mono hBw.size)
      obtain ⟨Y, hY⟩ : ∃ Y, w13.alloc (.cells #[.int .i64 t1, .int .i64 t2] 41) = Y := ⟨_, rfl⟩
      rw [hY] at kv hvv o9 hBw ⊢
      clear hY hb13 hb13b
      obtain ⟨l0, l1, l2, l3, l4, l5, l6, lf', lz⟩ := kv.seven
      go_wp2_with (first
        | (go_at_call 33; refine (sail33_any v p A8 p.ln c8 s _ HFT.out HLF.out hvv o9 HSL.out (by omega)).mono ?_; rintro e w14 ⟨hp14, hb14⟩; rw [if_pos HST.out, HV1.out] at hp14; obtain ⟨X14, x14, rfl, o14⟩ := hp14)
        | (go_at_call 15; refine (awake_any _).mono ?_; rintro e z3 ⟨rfl, hq3⟩)
        | fail)
      have hBw2 := hBw.trans (hb14.mono hBw.size)
      go_ret
      exact ⟨rfl, hBw2.trans (hq3.mono hBw2.size)⟩
end Go.Proofs.Ytfcpjkofbejleaa
