/- ShipBetter. -/
import Derived.Test.YtfcpjkofbejleaaTgh
set_option linter.unusedSimpArgs false
set_option linter.unusedVariables false
namespace Go.Proofs.Ytfcpjkofbejleaa
open Go Go.RowKit
set_option maxRecDepth 100000 in
set_option maxHeartbeats 8000000 in
theorem shipBetter_run (A : Option Addr) (n c : Nat) (L : List Int) (w : World) (hn : n ≤ 9000000000000000000) (hl : L.length = n) (hA : Sl w w.heap.size 1 A (ints L)) : Calls Try.prog 8 #[.slice A n c] w fun e w' => e = .returned (.bool true) ∧ Below w.heap.size w w' := by
  have HL := Lib.hid hl
  clear hl
  obtain ⟨i3, hi3, hz3, hs3, iy3⟩ := info_parts info3'
  go_enter Try.func8, Try.ntmps8
  go_upto_region 3 with (first
    | (go_at_call 16; refine (feedOf_any A n c L _ hn HL.out hA).mono ?_; rintro e w1 ⟨⟨g, rfl, hg0, hfd⟩, hb1⟩)
    | (go_at_call 18; have U1 := (FT.self hfd).alloc (.cells #[.int .i64 4, .int .i64 30] 3); refine (either_any g w1.heap.size 2 #[.int .i64 4, .int .i64 30] (fun z => z = 4 ∨ z = 30) _ U1.2 (Bx.new w1 3 _) (by have := hfd.lt; omega) (by omega) (by omega) (bx2 _ (by omega) (by omega))).mono ?_; rintro e w2 ⟨⟨T, rfl, hT⟩, hf2, hg2⟩; have U2 := U1.call hg2 hf2; clear hf2 hg2 U1)
    | (go_at_call 17; refine (voyageOf_any g 3 4 5 T _ U2.2 (by omega) (by omega) (by omega) (by omega) (by omega) (by omega) (by omega) (by omega)).mono ?_; rintro e w3 ⟨⟨v, p, hsm, hFit, rfl, hV0⟩, hU3⟩; have U3 : FT g w1 w3 := ⟨grownF_trans U2.1 hU3.1, hU3.2⟩; rw [vcs_def]; clear hU3 U2)
    | fail)
  have hok := hsm.ok (by omega) (by omega) (by omega) (by omega)
  have hck := hsm.ck (by omega) (by omega) (by omega) (by omega)
  have hlf := hsm.lf
  have HSM := Lib.hid hsm
  have HOK := Lib.hid hok
  have HCK := Lib.hid hck
  have HLF := Lib.hid hlf
  have HFT := Lib.hid hFit
  have hln6 : p.ln ≤ 6 := by rw [← hV0.ll]; exact hok.l6
  have hsn4 : p.sn ≤ 4 := by rw [← hV0.sl]; exact hok.s4
  have hhn3 : p.hn ≤ 3 := by rw [← hV0.hl]; exact hok.h3
  have hhn1 : 1 ≤ p.hn := by rw [← hV0.hl]; exact hok.h1
  have B1 := (Below.refl w3.heap.size w3).alloc (Nat.le_refl _) (.cells #[.int .i64 v.li, .int .i64 v.un, .int .i64 v.tr, .slice p.HA p.hn p.hc, .int .i64 v.le, .slice p.SA p.sn p.sc, .slice p.LA p.ln p.lc] 26)
  have kO := Bx.new w3 26 #[.int .i64 v.li, .int .i64 v.un, .int .i64 v.tr, .slice p.HA p.hn p.hc, .int .i64 v.le, .slice p.SA p.sn p.sc, .slice p.LA p.ln p.lc]
  have hO := hV0.call B1
  have U4 := U3.alloc (.cells #[.int .i64 v.li, .int .i64 v.un, .int .i64 v.tr, .slice p.HA p.hn p.hc, .int .i64 v.le, .slice p.SA p.sn p.sc, .slice p.LA p.ln p.lc] 26)
  have hgl := U3.2.lt
  have hw13 := U3.size
  obtain ⟨V1, hV1⟩ : ∃ V, w3.alloc (.cells #[.int .i64 v.li, .int .i64 v.un, .int .i64 v.tr, .slice p.HA p.hn p.hc, .int .i64 v.le, .slice p.SA p.sn p.sc, .slice p.LA p.ln p.lc] 26) = V := ⟨_, rfl⟩
  rw [hV1] at kO hO U4 ⊢
  obtain ⟨bO, hbO⟩ : ∃ b, w3.heap.size = b := ⟨_, rfl⟩
  rw [hbO] at kO hgl ⊢
  have hgO : bO ≠ g := by omega
  clear hV1 hbO B1 hV0 U3 hsm hok hck hlf hFit hw13
  obtain ⟨l0, l1, l2, l3, l4, l5, l6, lf', lz⟩ := kO.seven
  go_upto_region 4 with (first
    | (go_at_call 19; refine (stowageOf_any g v p _ U4.2 HCK.out hO).mono ?_; rintro e V ⟨⟨SA, sc, s, rfl, hsl, hst, hSV⟩, hU5⟩; have U5 : FT g w1 V := ⟨grownF_trans U4.1 hU5.1, hU5.2⟩)
    | fail)
  have HSL := Lib.hid hsl
  have HST := Lib.hid hst
  have kV := hU5.bx kO hgO
  have hV := hU5.voy U4.2 hO
  have hBV := U5.be hb1 hg0
  have hFV := U5.2
  clear hb1 hfd U4 U5 hU5 l0 l1 l2 l3 l4 l5 l6 lf' lz kO hO hsl hst hgl
  have HHL := Lib.hid hV.hl
  have HSS := Lib.hid hV.sl
  have HLL := Lib.hid hV.ll
  have hTb : T ≤ 30 := by omega
  have hT0 : 0 ≤ T := by omega
  obtain ⟨l0, l1, l2, l3, l4, l5, l6, lf', lz⟩ := kV.seven
  go_upto_region 5 with (first
    | (go_at_call 22; refine (copyVoyage_any v p _ HOK.out hV).mono ?_; rintro e y3 ⟨HA, hc, SA2, sc2, LA, lc, rs, rfl, oh, os, so, ap, ol, hq3⟩)
    | fail)
  clear l0 l1 l2 l3 l4 l5 l6 lf' lz
  have C0 : CV V y3.heap.size v.li v.un v.tr v.le v.hs v.ss v.ls (.slice HA p.hn hc) (.slice SA2 p.sn sc2) (.slice LA p.ln lc) rs (y3.alloc (.cells #[.int .i64 v.li, .int .i64 v.un, .int .i64 v.tr, .slice HA p.hn hc, .int .i64 v.le, .slice SA2 p.sn sc2, .slice LA p.ln lc] 26)) :=
    ⟨Bx.new _ _ _, by rw [HHL.out]; exact oh.alloc _, by rw [HSS.out]; exact os.alloc _, so.bel (bel1 _ _), ap, by rw [HLL.out]; exact ol.alloc _, hq3.alloc hq3.size _, hq3.size⟩
  have X0 := XV.of C0 hFV
  obtain ⟨q6, hq6⟩ : ∃ q, y3.heap.size = q := ⟨_, rfl⟩
  obtain ⟨U, hU0⟩ : ∃ U, y3.alloc (.cells #[.int .i64 v.li, .int .i64 v.un, .int .i64 v.tr, .slice HA p.hn hc, .int .i64 v.le, .slice SA2 p.sn sc2, .slice LA p.ln lc] 26) = U := ⟨_, rfl⟩
  rw [hU0] at X0 ⊢
  rw [hq6] at X0 ⊢
  clear hU0 hq6 C0 oh os so ap ol hq3
  go_wp2_with fail
  go_loopw [7] (fun iv wr => ∃ (i : Nat) (ls' : List Cg), iv = .int .i64 i ∧ i ≤ p.ln ∧ TgL v.ls ls' ∧ ls'.length = p.ln ∧ XV g V q6 v.li v.un v.tr v.le v.hs v.ss ls' (.slice HA p.hn hc) (.slice SA2 p.sn sc2) (.slice LA p.ln lc) rs wr) (fun iv _ => p.ln - (intOf iv).toNat)
  case atStart => exact ⟨0, v.ls, rfl, by omega, .start HOK.out.ls, HLL.out, X0⟩
  case round =>
    clear X0
    obtain ⟨i, ls', rfl, hi, htl, hln, XI⟩ := hrel
    have kX := XI.k
    obtain ⟨l0, l1, l2, l3, l4, l5, l6, lf', lz⟩ := kX.seven
    by_cases hin : i < p.ln
    · have hil : i < ls'.length := by rw [hln]; exact hin
      have hget := List.getElem?_eq_getElem hil
      have hbo := htl.ok HOK.out.ls hget
      generalize ls'[i] = b at *
      have HBI := Lib.hid hget
      have HLN := Lib.hid hln
      have HTG := Lib.hid htl
      have hb0 := hbo.t0
      have hb1 := hbo.t01
      have hb2 := hbo.t1
      have hos := XI.ol
      rw [hln] at hos
      obtain ⟨yq, rfl⟩ := own_some hos (by omega)
      clear hos
      have haq : (⟨yq, 0, none⟩ : Addr).add (i * 3) = ⟨yq, i * 3, none⟩ := by unfold Addr.add; split <;> simp_all
      have hiw : IntKind.i64.wrap ((i : Int) + 1) = (i : Int) + 1 := IntWalk.i64_in _ (by omega)
      obtain ⟨c0, c1, c2, cf⟩ := lot_cells XI.ol hget
      have HFX := Lib.hid XI.ft.2
      clear hget hln htl hil hbo
      go_wp2_with fail
      clear l0 l1 l2 l3 l4 l5 l6 lf' lz
      refine AnyG.startC (by kernel_rfl) ?_
      refine AnyG.takeP (i := 0) (v := ?_) rfl (by kernel_rfl) (fun _ _ _ h => h) rfl ?_ ?_
      rotate_left
      · (intro w'; go_simp; try with_reducible rfl)
      try simp only [Act.put, List.getElem_toArray, List.getElem_cons_succ, List.getElem_cons_zero, List.setIfInBounds_toArray, List.set_cons_zero, List.set_cons_succ]
      refine AnyG.takeP (i := 2) (v := ?_) rfl (by kernel_rfl) (fun _ _ _ h => h) rfl ?_ ?_
      rotate_left
      · (intro w'; go_simp; try with_reducible rfl)
      try simp only [Act.put, List.getElem_toArray, List.getElem_cons_succ, List.getElem_cons_zero, List.setIfInBounds_toArray, List.set_cons_zero, List.set_cons_succ]
      refine AnyG.takeP (i := 3) (v := ?_) rfl (by kernel_rfl) (fun _ _ _ h => h) rfl ?_ ?_
      rotate_left
      · (intro w'; go_simp; try with_reducible rfl)
      try simp only [Act.put, List.getElem_toArray, List.getElem_cons_succ, List.getElem_cons_zero, List.setIfInBounds_toArray, List.set_cons_zero, List.set_cons_succ]
      refine AnyG.takeP (i := 4) (v := ?_) rfl (by kernel_rfl) (fun _ _ _ h => h) rfl ?_ ?_
      rotate_left
      · (intro w'; go_simp; try with_reducible rfl)
      try simp only [Act.put, List.getElem_toArray, List.getElem_cons_succ, List.getElem_cons_zero, List.setIfInBounds_toArray, List.set_cons_zero, List.set_cons_succ]
      refine AnyG.takeP (i := 6) (v := ?_) rfl (by kernel_rfl) (fun _ _ _ h => h) rfl ?_ ?_
      rotate_left
      · (intro w'; go_simp; try with_reducible rfl)
      try simp only [Act.put, List.getElem_toArray, List.getElem_cons_succ, List.getElem_cons_zero, List.setIfInBounds_toArray, List.set_cons_zero, List.set_cons_succ]
      refine AnyG.enter (fun w' : World => FT g wr w') (fun i => i != 13) ?_
      have hS : (fun w' : World => FT g wr w') (World.drew _) := (FT.self XI.ft.2).drew
      refine AnyG.takeC (i := 1) (v := ?_) rfl (by kernel_rfl) (fun _ _ _ h => h) rfl ?_ hS ?_
      rotate_left
      · (intro w' hSw; (try dsimp only at hSw); obtain ⟨x0, x1, x2, x3, x4, x5, x6, xf, xz⟩ := (FT.bx hSw kX XI.hqg).seven; go_simp; try with_reducible rfl)
      try simp only [Act.put, List.getElem_toArray, List.getElem_cons_succ, List.getElem_cons_zero, List.setIfInBounds_toArray, List.set_cons_zero, List.set_cons_succ]
      refine AnyG.takeC (i := 5) (v := ?_) rfl (by kernel_rfl) (fun _ _ _ h => h) rfl ?_ hS ?_
      rotate_left
      · (intro w' hSw; (try dsimp only at hSw); obtain ⟨x0, x1, x2, x3, x4, x5, x6, xf, xz⟩ := (FT.bx hSw kX XI.hqg).seven; go_simp; try with_reducible rfl)
      try simp only [Act.put, List.getElem_toArray, List.getElem_cons_succ, List.getElem_cons_zero, List.setIfInBounds_toArray, List.set_cons_zero, List.set_cons_succ]
      refine AnyG.takeC (i := 7) (v := ?_) rfl (by kernel_rfl) (fun _ _ _ h => h) rfl ?_ hS ?_
      rotate_left
      · (intro w' hSw; (try dsimp only at hSw); go_simp; try with_reducible rfl)
      try simp only [Act.put, List.getElem_toArray, List.getElem_cons_succ, List.getElem_cons_zero, List.setIfInBounds_toArray, List.set_cons_zero, List.set_cons_succ]
      refine AnyG.takeC (i := 8) (v := ?_) rfl (by kernel_rfl) (fun _ _ _ h => h) rfl ?_ hS ?_
      rotate_left
      · (intro w' hSw; (try dsimp only at hSw); go_simp; try with_reducible rfl)
      try simp only [Act.put, List.getElem_toArray, List.getElem_cons_succ, List.getElem_cons_zero, List.setIfInBounds_toArray, List.set_cons_zero, List.set_cons_succ]
      refine AnyG.takeC (i := 9) (v := ?_) rfl (by kernel_rfl) (fun _ _ _ h => h) rfl ?_ hS ?_
      rotate_left
      · (intro w' hSw; (try dsimp only at hSw); have p9 := hSw.cell HFX.out c0 (fun _ e => by cases e); have p8 := hSw.cell HFX.out c1 (fun _ e => by cases e); go_simp; try with_reducible rfl)
      try simp only [Act.put, List.getElem_toArray, List.getElem_cons_succ, List.getElem_cons_zero, List.setIfInBounds_toArray, List.set_cons_zero, List.set_cons_succ]
      refine AnyG.one (i := 10) (by kernel_rfl) rfl rfl ?_
      go_simp
      refine (tighter_any g b.t0 b.t1 _ hS.2 (by omega) (by omega) (by omega)).mono ?_
      rintro er y10 ⟨⟨a0, a1, rfl, a01, a02, a03⟩, hfx, hgx⟩
      have Q10 := hS.call hgx hfx
      refine Onward.on Q10 (fun hS2 => ?_)
      clear hS
      have hS := hS2
      clear hS2
      try simp only [Act.put, List.getElem_toArray, List.getElem_cons_succ, List.getElem_cons_zero, List.setIfInBounds_toArray, List.set_cons_zero, List.set_cons_succ]
      refine AnyG.takeC (i := 11) (v := ?_) rfl (by kernel_rfl) (fun _ _ _ h => h) rfl ?_ hS ?_
      rotate_left
      · (intro w' hSw; (try dsimp only at hSw); go_simp; try with_reducible rfl)
      try simp only [Act.put, List.getElem_toArray, List.getElem_cons_succ, List.getElem_cons_zero, List.setIfInBounds_toArray, List.set_cons_zero, List.set_cons_succ]
      refine AnyG.takeC (i := 12) (v := ?_) rfl (by kernel_rfl) (fun _ _ _ h => h) rfl ?_ hS ?_
      rotate_left
      · (intro w' hSw; (try dsimp only at hSw); go_simp; try with_reducible rfl)
      try simp only [Act.put, List.getElem_toArray, List.getElem_cons_succ, List.getElem_cons_zero, List.setIfInBounds_toArray, List.set_cons_zero, List.set_cons_succ]
      refine AnyG.one (i := 13) (by kernel_rfl) rfl rfl ?_
      have XL := XI.go Q10
      have o10 := XL.ol
      have hfr := XL.ol
      rw [HLN.out] at hfr
      replace hfr := own_free hfr
      obtain ⟨p0, p1, p2, pf⟩ := lot_cells o10 HBI.out
      have X1 := XL.lot HLN.out HBI.out (b' := ⟨a0, b.t1, b.wo⟩) 0 (by decide) a0 rfl
      have X2 := X1.lot (by rw [List.length_set]; exact HLN.out) (i := i) (b := ⟨a0, b.t1, b.wo⟩) (by rw [List.getElem?_set_self (by rw [HLN.out]; exact hin)]) (b' := ⟨a0, a1, b.wo⟩) 1 (by decide) a1 rfl
      go_simp
      rw [Nat.add_zero] at X2
      rw [List.set_set] at X2
      clear p0 p1 p2 hfr pf o10
      refine Onward.last rfl ?_
      try simp only [Act.put, List.getElem_toArray, List.getElem_cons_succ, List.getElem_cons_zero, List.setIfInBounds_toArray, List.set_cons_zero, List.set_cons_succ]
      refine AnyG.done (by kernel_rfl) ?_ _
      go_simp
      obtain ⟨Z, hZ⟩ : ∃ Z, (y10.setCell ⟨yq, i * 3, none⟩ (.int .i64 a0)).setCell ⟨yq, i * 3 + 1, none⟩ (.int .i64 a1) = Z := ⟨_, rfl⟩
      rw [hZ] at X2 ⊢
      have hst2 := HTG.out.step HBI.out a01 a02 a03
      clear hZ hS X1 XL Q10 c0 c1 c2 cf
      go_wp2_with fail
      go_roundw
      case rel => exact ⟨i + 1, _, by go_num, by omega, hst2, by rw [List.length_set]; exact HLN.out, X2⟩
      case measure => simp [intOf]; omega
    · obtain rfl : i = p.ln := by omega
      have HTL' := Lib.hid htl
      have HLE := Lib.hid hln
      clear htl hln hi hin kX
      go_wp2_with fail
      clear l0 l1 l2 l3 l4 l5 l6 lf' lz
      go_loopw [8] (fun iv wr => ∃ (i : Nat) (ss' : List Si) (rs' : List (List Value)), iv = .int .i64 i ∧ i ≤ p.sn ∧ TgSs v.ss ss' ∧ ss'.length = p.sn ∧ XV g V q6 v.li v.un v.tr v.le v.hs ss' ls' (.slice HA p.hn hc) (.slice SA2 p.sn sc2) (.slice LA p.ln lc) rs' wr) (fun iv _ => p.sn - (intOf iv).toNat)
      case atStart => exact ⟨0, v.ss, rs, rfl, by omega, .start HOK.out.ss, HSS.out, XI⟩
      case round =>
        clear XI
        obtain ⟨i, ss', rs', rfl, hi, hts, hln, XI⟩ := hrel
        have kX := XI.k
        obtain ⟨l0, l1, l2, l3, l4, l5, l6, lf', lz⟩ := kX.seven
        by_cases hin : i < p.sn
        · have hil : i < ss'.length := by rw [hln]; exact hin
          have hget := List.getElem?_eq_getElem hil
          generalize ss'[i] = b at *
          obtain ⟨s0, hs0, hs1⟩ := hts.at_ hget
          have hbo := (hs1.ok (HOK.out.ss s0 hs0) (HSM.out.ss s0 hs0).2.2.2.2.2.zero).1
          have HBI := Lib.hid hget
          have HLN := Lib.hid hln
          have HTG := Lib.hid hts
          have HBO := Lib.hid hbo
          have hb0 := hbo.t0
          have hb1 := hbo.t01
          have hb2 := hbo.t1
          have hb6 := hbo.l6
          have hos := XI.os
          rw [hln] at hos
          obtain ⟨yq, rfl⟩ := own_some hos (by omega)
          clear hos
          have haq : (⟨yq, 0, none⟩ : Addr).add (i * 3) = ⟨yq, i * 3, none⟩ := by unfold Addr.add; split <;> simp_all
          have hiw : IntKind.i64.wrap ((i : Int) + 1) = (i : Int) + 1 := IntWalk.i64_in _ (by omega)
          obtain ⟨G0, gc0, c0, c1, c2, _⟩ := XI.at_ hln hget
          have HFX := Lib.hid XI.ft.2
          clear hget hln hts hil hbo hs0 hs1
          go_wp2_with fail
          clear l0 l1 l2 l3 l4 l5 l6 lf' lz
          refine AnyG.startC (by kernel_rfl) ?_
          refine AnyG.takeP (i := 0) (v := ?_) rfl (by kernel_rfl) (fun _ _ _ h => h) rfl ?_ ?_
          rotate_left
          · (intro w'; go_simp; try with_reducible rfl)
          try simp only [Act.put, List.getElem_toArray, List.getElem_cons_succ, List.getElem_cons_zero, List.setIfInBounds_toArray, List.set_cons_zero, List.set_cons_succ]
          refine AnyG.takeP (i := 2) (v := ?_) rfl (by kernel_rfl) (fun _ _ _ h => h) rfl ?_ ?_
          rotate_left
          · (intro w'; go_simp; try with_reducible rfl)
          try simp only [Act.put, List.getElem_toArray, List.getElem_cons_succ, List.getElem_cons_zero, List.setIfInBounds_toArray, List.set_cons_zero, List.set_cons_succ]
          refine AnyG.takeP (i := 3) (v := ?_) rfl (by kernel_rfl) (fun _ _ _ h => h) rfl ?_ ?_
          rotate_left
          · (intro w'; go_simp; try with_reducible rfl)
          try simp only [Act.put, List.getElem_toArray, List.getElem_cons_succ, List.getElem_cons_zero, List.setIfInBounds_toArray, List.set_cons_zero, List.set_cons_succ]
          refine AnyG.takeP (i := 4) (v := ?_) rfl (by kernel_rfl) (fun _ _ _ h => h) rfl ?_ ?_
          rotate_left
          · (intro w'; go_simp; try with_reducible rfl)
          try simp only [Act.put, List.getElem_toArray, List.getElem_cons_succ, List.getElem_cons_zero, List.setIfInBounds_toArray, List.set_cons_zero, List.set_cons_succ]
          refine AnyG.takeP (i := 6) (v := ?_) rfl (by kernel_rfl) (fun _ _ _ h => h) rfl ?_ ?_
          rotate_left
          · (intro w'; go_simp; try with_reducible rfl)
          try simp only [Act.put, List.getElem_toArray, List.getElem_cons_succ, List.getElem_cons_zero, List.setIfInBounds_toArray, List.set_cons_zero, List.set_cons_succ]
          refine AnyG.enter (fun w' : World => FT g wr w') (fun i => i != 13) ?_
          have hS : (fun w' : World => FT g wr w') (World.drew _) := (FT.self XI.ft.2).drew
          refine AnyG.takeC (i := 1) (v := ?_) rfl (by kernel_rfl) (fun _ _ _ h => h) rfl ?_ hS ?_
          rotate_left
          · (intro w' hSw; (try dsimp only at hSw); obtain ⟨x0, x1, x2, x3, x4, x5, x6, xf, xz⟩ := (FT.bx hSw kX XI.hqg).seven; go_simp; try with_reducible rfl)
          try simp only [Act.put, List.getElem_toArray, List.getElem_cons_succ, List.getElem_cons_zero, List.setIfInBounds_toArray, List.set_cons_zero, List.set_cons_succ]
          refine AnyG.takeC (i := 5) (v := ?_) rfl (by kernel_rfl) (fun _ _ _ h => h) rfl ?_ hS ?_
          rotate_left
          · (intro w' hSw; (try dsimp only at hSw); obtain ⟨x0, x1, x2, x3, x4, x5, x6, xf, xz⟩ := (FT.bx hSw kX XI.hqg).seven; go_simp; try with_reducible rfl)
          try simp only [Act.put, List.getElem_toArray, List.getElem_cons_succ, List.getElem_cons_zero, List.setIfInBounds_toArray, List.set_cons_zero, List.set_cons_succ]
          refine AnyG.takeC (i := 7) (v := ?_) rfl (by kernel_rfl) (fun _ _ _ h => h) rfl ?_ hS ?_
          rotate_left
          · (intro w' hSw; (try dsimp only at hSw); go_simp; try with_reducible rfl)
          try simp only [Act.put, List.getElem_toArray, List.getElem_cons_succ, List.getElem_cons_zero, List.setIfInBounds_toArray, List.set_cons_zero, List.set_cons_succ]
          refine AnyG.takeC (i := 8) (v := ?_) rfl (by kernel_rfl) (fun _ _ _ h => h) rfl ?_ hS ?_
          rotate_left
          · (intro w' hSw; (try dsimp only at hSw); go_simp; try with_reducible rfl)
          try simp only [Act.put, List.getElem_toArray, List.getElem_cons_succ, List.getElem_cons_zero, List.setIfInBounds_toArray, List.set_cons_zero, List.set_cons_succ]
          refine AnyG.takeC (i := 9) (v := ?_) rfl (by kernel_rfl) (fun _ _ _ h => h) rfl ?_ hS ?_
          rotate_left
          · (intro w' hSw; (try dsimp only at hSw); have p9 := hSw.cell HFX.out c0 (fun _ e => by cases e); have p8 := hSw.cell HFX.out c1 (fun _ e => by cases e); go_simp; try with_reducible rfl)
          try simp only [Act.put, List.getElem_toArray, List.getElem_cons_succ, List.getElem_cons_zero, List.setIfInBounds_toArray, List.set_cons_zero, List.set_cons_succ]
          refine AnyG.one (i := 10) (by kernel_rfl) rfl rfl ?_
          go_simp
          refine (tighter_any g b.t0 b.t1 _ hS.2 (by omega) (by omega) (by omega)).mono ?_
          rintro er y10 ⟨⟨a0, a1, rfl, a01, a02, a03⟩, hfx, hgx⟩
          have Q10 := hS.call hgx hfx
          refine Onward.on Q10 (fun hS2 => ?_)
          clear hS
          have hS := hS2
          clear hS2
          try simp only [Act.put, List.getElem_toArray, List.getElem_cons_succ, List.getElem_cons_zero, List.setIfInBounds_toArray, List.set_cons_zero, List.set_cons_succ]
          refine AnyG.takeC (i := 11) (v := ?_) rfl (by kernel_rfl) (fun _ _ _ h => h) rfl ?_ hS ?_
          rotate_left
          · (intro w' hSw; (try dsimp only at hSw); go_simp; try with_reducible rfl)
          try simp only [Act.put, List.getElem_toArray, List.getElem_cons_succ, List.getElem_cons_zero, List.setIfInBounds_toArray, List.set_cons_zero, List.set_cons_succ]
          refine AnyG.takeC (i := 12) (v := ?_) rfl (by kernel_rfl) (fun _ _ _ h => h) rfl ?_ hS ?_
          rotate_left
          · (intro w' hSw; (try dsimp only at hSw); go_simp; try with_reducible rfl)
          try simp only [Act.put, List.getElem_toArray, List.getElem_cons_succ, List.getElem_cons_zero, List.setIfInBounds_toArray, List.set_cons_zero, List.set_cons_succ]
          refine AnyG.one (i := 13) (by kernel_rfl) rfl rfl ?_
          have XL := XI.go Q10
          obtain ⟨G9, gc9, p0, p1, p2, hH9, o9⟩ := XL.at_ HLN.out HBI.out
          have hos2 := XL.os
          rw [HLN.out] at hos2
          have hfr := own_free hos2
          obtain ⟨rs1, X21, hH1⟩ := XL.cell HLN.out HBI.out (b' := ⟨a0, b.t1, b.lv⟩) 0 (by decide) a0 rfl (fun A C => rfl)
          obtain ⟨rs2, X22, hH2⟩ := X21.cell (by rw [List.length_set]; exact HLN.out) (i := i) (b := ⟨a0, b.t1, b.lv⟩) (by rw [List.getElem?_set_self (by rw [HLN.out]; exact hin)]) (b' := ⟨a0, a1, b.lv⟩) 1 (by decide) a1 rfl (fun A C => rfl)
          go_simp
          rw [Nat.add_zero] at X22
          rw [List.set_set] at X22
          clear p0 p1 p2 hfr hos2 o9 hH9 hH1 hH2
          refine Onward.last rfl ?_
          try simp only [Act.put, List.getElem_toArray, List.getElem_cons_succ, List.getElem_cons_zero, List.setIfInBounds_toArray, List.set_cons_zero, List.set_cons_succ]
          refine AnyG.done (by kernel_rfl) ?_ _
          go_simp
          obtain ⟨gn, hgn⟩ : ∃ n, b.lv.length = n := ⟨_, rfl⟩
          have HGN := Lib.hid hgn
          have hg4 : gn ≤ 6 := by omega
          obtain ⟨Z, hZ⟩ : ∃ Z, (y10.setCell ⟨yq, i * 3, none⟩ (.int .i64 a0)).setCell ⟨yq, i * 3 + 1, none⟩ (.int .i64 a1) = Z := ⟨_, rfl⟩
          rw [hZ] at X22 ⊢
          have hst0 := TgS.start (s := b) (a := a0) (b := a1) (fun l hl => (HBO.out.lv l hl).d01) a01 a02 a03
          clear hZ hgn hS X21 XL Q10 c0 c1 c2 kX HFX XI
          go_wp2_with fail
          go_loopw [9] (fun kv wr => ∃ (k : Nat) (b1 : Si), kv = .int .i64 k ∧ k ≤ gn ∧ TgS b b1 ∧ XV g V q6 v.li v.un v.tr v.le v.hs (ss'.set i b1) ls' (.slice HA p.hn hc) (.slice (some ⟨yq, 0, none⟩) p.sn sc2) (.slice LA p.ln lc) rs2 wr) (fun kv _ => gn - (intOf kv).toNat)
          case atStart => exact ⟨0, _, rfl, by omega, hst0, X22⟩
          case round =>
            clear X22 hst0
            obtain ⟨k, b1, rfl, hk, hp, X⟩ := hrel
            have hlb := hp.len
            rw [HGN.out] at hlb
            have kX := X.k
            have HFX := Lib.hid X.ft.2
            have HB1 := Lib.hid (show (ss'.set i b1)[i]? = some b1 from List.getElem?_set_self (by rw [HLN.out]; exact hin))
            obtain ⟨G, gc, p0, p1, p2, hH, oG⟩ := X.at_ (by rw [List.length_set]; exact HLN.out) HB1.out
            obtain ⟨l0, l1, l2, l3, l4, l5, l6, lf', lz⟩ := kX.seven
            have hfree : ∀ o, wr.frozen? ⟨yq, o, none⟩ = false := by
              have o := X.os
              rw [List.length_set, HLN.out] at o
              exact own_free o
            by_cases hkn : k < gn
            · have hkb : k < b1.lv.length := by rw [hlb]; exact hkn
              have hl1 := List.getElem?_eq_getElem hkb
              have hlo : (b1.lv[k]).d0 ≤ (b1.lv[k]).d1 ∧ 0 ≤ (b1.lv[k]).d0 ∧ (b1.lv[k]).d1 ≤ 10000 := by
                have hk2 : k < b.lv.length := by rw [HGN.out]; exact hkn
                have q := hp.lv k _ _ (List.getElem?_eq_getElem hk2) hl1
                have q2 := HBO.out.lv _ (List.getElem_mem hk2)
                have := q.d0; have := q.d01; have := q.d1; have := q2.d0; have := q2.d1
                omega
              generalize b1.lv[k] = l at *
              obtain ⟨gq, rfl⟩ := own_some oG (by rw [hlb]; omega)
              have HL1 := Lib.hid hl1
              have HP := Lib.hid hp
              have HKL := Lib.hid (show k < b1.lv.length by rw [hlb]; exact hkn)
              have HLB := Lib.hid hlb
              obtain ⟨e0, e1, e2, ef⟩ := lvl_cells oG hl1
              rw [hlb] at p2
              have haq2 : (⟨gq, 0, none⟩ : Addr).add (k * 3) = ⟨gq, k * 3, none⟩ := by unfold Addr.add; split <;> simp_all
              have hkw : IntKind.i64.wrap ((k : Int) + 1) = (k : Int) + 1 := IntWalk.i64_in _ (by omega)
              clear hl1 hp hlb hkb
              go_wp2_with fail
              clear l0 l1 l2 l3 l4 l5 l6 lf' lz
              refine AnyG.startC (by kernel_rfl) ?_
              refine AnyG.takeP (i := 0) (v := ?_) rfl (by kernel_rfl) (fun _ _ _ h => h) rfl ?_ ?_
              rotate_left
              · (intro w'; go_simp; try with_reducible rfl)
              try simp only [Act.put, List.getElem_toArray, List.getElem_cons_succ, List.getElem_cons_zero, List.setIfInBounds_toArray, List.set_cons_zero, List.set_cons_succ]
              refine AnyG.takeP (i := 2) (v := ?_) rfl (by kernel_rfl) (fun _ _ _ h => h) rfl ?_ ?_
              rotate_left
              · (intro w'; go_simp; try with_reducible rfl)
              try simp only [Act.put, List.getElem_toArray, List.getElem_cons_succ, List.getElem_cons_zero, List.setIfInBounds_toArray, List.set_cons_zero, List.set_cons_succ]
              refine AnyG.takeP (i := 6) (v := ?_) rfl (by kernel_rfl) (fun _ _ _ h => h) rfl ?_ ?_
              rotate_left
              · (intro w'; go_simp; try with_reducible rfl)
              try simp only [Act.put, List.getElem_toArray, List.getElem_cons_succ, List.getElem_cons_zero, List.setIfInBounds_toArray, List.set_cons_zero, List.set_cons_succ]
              refine AnyG.takeP (i := 7) (v := ?_) rfl (by kernel_rfl) (fun _ _ _ h => h) rfl ?_ ?_
              rotate_left
              · (intro w'; go_simp; try with_reducible rfl)
              try simp only [Act.put, List.getElem_toArray, List.getElem_cons_succ, List.getElem_cons_zero, List.setIfInBounds_toArray, List.set_cons_zero, List.set_cons_succ]
              refine AnyG.takeP (i := 8) (v := ?_) rfl (by kernel_rfl) (fun _ _ _ h => h) rfl ?_ ?_
              rotate_left
              · (intro w'; go_simp; try with_reducible rfl)
              try simp only [Act.put, List.getElem_toArray, List.getElem_cons_succ, List.getElem_cons_zero, List.setIfInBounds_toArray, List.set_cons_zero, List.set_cons_succ]
              refine AnyG.takeP (i := 10) (v := ?_) rfl (by kernel_rfl) (fun _ _ _ h => h) rfl ?_ ?_
              rotate_left
              · (intro w'; go_simp; try with_reducible rfl)
              try simp only [Act.put, List.getElem_toArray, List.getElem_cons_succ, List.getElem_cons_zero, List.setIfInBounds_toArray, List.set_cons_zero, List.set_cons_succ]
              refine AnyG.takeP (i := 14) (v := ?_) rfl (by kernel_rfl) (fun _ _ _ h => h) rfl ?_ ?_
              rotate_left
              · (intro w'; go_simp; try with_reducible rfl)
              try simp only [Act.put, List.getElem_toArray, List.getElem_cons_succ, List.getElem_cons_zero, List.setIfInBounds_toArray, List.set_cons_zero, List.set_cons_succ]
              refine AnyG.enter (fun w' : World => FT g wr w') (fun i => i != 21) ?_
              have hS : (fun w' : World => FT g wr w') (World.drew _) := (FT.self X.ft.2).drew
              refine AnyG.takeC (i := 1) (v := ?_) rfl (by kernel_rfl) (fun _ _ _ h => h) rfl ?_ hS ?_
              rotate_left
              · (intro w' hSw; (try dsimp only at hSw); obtain ⟨x0, x1, x2, x3, x4, x5, x6, xf, xz⟩ := (FT.bx hSw kX X.hqg).seven; go_simp; try with_reducible rfl)
              try simp only [Act.put, List.getElem_toArray, List.getElem_cons_succ, List.getElem_cons_zero, List.setIfInBounds_toArray, List.set_cons_zero, List.set_cons_succ]
              refine AnyG.takeC (i := 3) (v := ?_) rfl (by kernel_rfl) (fun _ _ _ h => h) rfl ?_ hS ?_
              rotate_left
              · (intro w' hSw; (try dsimp only at hSw); go_simp; try with_reducible rfl)
              try simp only [Act.put, List.getElem_toArray, List.getElem_cons_succ, List.getElem_cons_zero, List.setIfInBounds_toArray, List.set_cons_zero, List.set_cons_succ]
              refine AnyG.takeC (i := 4) (v := ?_) rfl (by kernel_rfl) (fun _ _ _ h => h) rfl ?_ hS ?_
              rotate_left
              · (intro w' hSw; (try dsimp only at hSw); go_simp; try with_reducible rfl)
              try simp only [Act.put, List.getElem_toArray, List.getElem_cons_succ, List.getElem_cons_zero, List.setIfInBounds_toArray, List.set_cons_zero, List.set_cons_succ]
              refine AnyG.takeC (i := 5) (v := ?_) rfl (by kernel_rfl) (fun _ _ _ h => h) rfl ?_ hS ?_
              rotate_left
              · (intro w' hSw; (try dsimp only at hSw); have p9 := hSw.cell HFX.out p2 (fun _ e => by cases e); go_simp; try with_reducible rfl)
              try simp only [Act.put, List.getElem_toArray, List.getElem_cons_succ, List.getElem_cons_zero, List.setIfInBounds_toArray, List.set_cons_zero, List.set_cons_succ]
              refine AnyG.takeC (i := 9) (v := ?_) rfl (by kernel_rfl) (fun _ _ _ h => h) rfl ?_ hS ?_
              rotate_left
              · (intro w' hSw; (try dsimp only at hSw); obtain ⟨x0, x1, x2, x3, x4, x5, x6, xf, xz⟩ := (FT.bx hSw kX X.hqg).seven; go_simp; try with_reducible rfl)
              try simp only [Act.put, List.getElem_toArray, List.getElem_cons_succ, List.getElem_cons_zero, List.setIfInBounds_toArray, List.set_cons_zero, List.set_cons_succ]
              refine AnyG.takeC (i := 11) (v := ?_) rfl (by kernel_rfl) (fun _ _ _ h => h) rfl ?_ hS ?_
              rotate_left
              · (intro w' hSw; (try dsimp only at hSw); go_simp; try with_reducible rfl)
              try simp only [Act.put, List.getElem_toArray, List.getElem_cons_succ, List.getElem_cons_zero, List.setIfInBounds_toArray, List.set_cons_zero, List.set_cons_succ]
              refine AnyG.takeC (i := 12) (v := ?_) rfl (by kernel_rfl) (fun _ _ _ h => h) rfl ?_ hS ?_
              rotate_left
              · (intro w' hSw; (try dsimp only at hSw); go_simp; try with_reducible rfl)
              try simp only [Act.put, List.getElem_toArray, List.getElem_cons_succ, List.getElem_cons_zero, List.setIfInBounds_toArray, List.set_cons_zero, List.set_cons_succ]
              refine AnyG.takeC (i := 13) (v := ?_) rfl (by kernel_rfl) (fun _ _ _ h => h) rfl ?_ hS ?_
              rotate_left
              · (intro w' hSw; (try dsimp only at hSw); have p9 := hSw.cell HFX.out p2 (fun _ e => by cases e); go_simp; try with_reducible rfl)
              try simp only [Act.put, List.getElem_toArray, List.getElem_cons_succ, List.getElem_cons_zero, List.setIfInBounds_toArray, List.set_cons_zero, List.set_cons_succ]
              refine AnyG.takeC (i := 15) (v := ?_) rfl (by kernel_rfl) (fun _ _ _ h => h) rfl ?_ hS ?_
              rotate_left
              · (intro w' hSw; (try dsimp only at hSw); go_simp; try with_reducible rfl)
              try simp only [Act.put, List.getElem_toArray, List.getElem_cons_succ, List.getElem_cons_zero, List.setIfInBounds_toArray, List.set_cons_zero, List.set_cons_succ]
              refine AnyG.takeC (i := 16) (v := ?_) rfl (by kernel_rfl) (fun _ _ _ h => h) rfl ?_ hS ?_
              rotate_left
              · (intro w' hSw; (try dsimp only at hSw); go_simp; try with_reducible rfl)
              try simp only [Act.put, List.getElem_toArray, List.getElem_cons_succ, List.getElem_cons_zero, List.setIfInBounds_toArray, List.set_cons_zero, List.set_cons_succ]
              refine AnyG.takeC (i := 17) (v := ?_) rfl (by kernel_rfl) (fun _ _ _ h => h) rfl ?_ hS ?_
              rotate_left
              · (intro w' hSw; (try dsimp only at hSw); have p9 := hSw.cell HFX.out e1 (fun _ e => by cases e); have p8 := hSw.cell HFX.out e2 (fun _ e => by cases e); go_simp; try with_reducible rfl)
              try simp only [Act.put, List.getElem_toArray, List.getElem_cons_succ, List.getElem_cons_zero, List.setIfInBounds_toArray, List.set_cons_zero, List.set_cons_succ]
              refine AnyG.one (i := 18) (by kernel_rfl) rfl rfl ?_
              go_simp
              refine (tighter_any g l.d0 l.d1 _ hS.2 (by omega) (by omega) (by omega)).mono ?_
              rintro er y18 ⟨⟨a0, a1, rfl, a01, a02, a03⟩, hfx, hgx⟩
              have Q18 := hS.call hgx hfx
              refine Onward.on Q18 (fun hS2 => ?_)
              clear hS
              have hS := hS2
              clear hS2
              try simp only [Act.put, List.getElem_toArray, List.getElem_cons_succ, List.getElem_cons_zero, List.setIfInBounds_toArray, List.set_cons_zero, List.set_cons_succ]
              refine AnyG.takeC (i := 19) (v := ?_) rfl (by kernel_rfl) (fun _ _ _ h => h) rfl ?_ hS ?_
              rotate_left
              · (intro w' hSw; (try dsimp only at hSw); go_simp; try with_reducible rfl)
              try simp only [Act.put, List.getElem_toArray, List.getElem_cons_succ, List.getElem_cons_zero, List.setIfInBounds_toArray, List.set_cons_zero, List.set_cons_succ]
              refine AnyG.takeC (i := 20) (v := ?_) rfl (by kernel_rfl) (fun _ _ _ h => h) rfl ?_ hS ?_
              rotate_left
              · (intro w' hSw; (try dsimp only at hSw); go_simp; try with_reducible rfl)
              try simp only [Act.put, List.getElem_toArray, List.getElem_cons_succ, List.getElem_cons_zero, List.setIfInBounds_toArray, List.set_cons_zero, List.set_cons_succ]
              refine AnyG.one (i := 21) (by kernel_rfl) rfl rfl ?_
              have XA := X.go Q18
              have o18 := Q18.row HFX.out oG (by decide)
              obtain ⟨f0, f1, f2, ff⟩ := lvl_cells o18 HL1.out
              have X17 := XA.dep hH HB1.out HL1.out (l' := ⟨l.fr, a0, l.d1⟩) 1 (by decide) a0 rfl
              have X18 := X17.dep (i := i) (j := k) (b := ⟨b1.t0, b1.t1, b1.lv.set k ⟨l.fr, a0, l.d1⟩⟩) (l := ⟨l.fr, a0, l.d1⟩) hH (by rw [List.getElem?_set_self (by rw [List.length_set, HLN.out]; exact hin)]) (by dsimp only; exact List.getElem?_set_self HKL.out) (l' := ⟨l.fr, a0, a1⟩) 2 (by decide) a1 rfl
              go_simp
              simp only [List.set_set] at X18
              clear f0 f1 f2 ff o18
              refine Onward.last rfl ?_
              try simp only [Act.put, List.getElem_toArray, List.getElem_cons_succ, List.getElem_cons_zero, List.setIfInBounds_toArray, List.set_cons_zero, List.set_cons_succ]
              refine AnyG.done (by kernel_rfl) ?_ _
              go_simp
              obtain ⟨Z2, hZ2⟩ : ∃ Z, (y18.setCell ⟨gq, k * 3 + 1, none⟩ (.int .i64 a0)).setCell ⟨gq, k * 3 + 2, none⟩ (.int .i64 a1) = Z := ⟨_, rfl⟩
              rw [hZ2] at X18 ⊢
              have hps := HP.out.step HL1.out (l' := ⟨l.fr, a0, a1⟩) ⟨rfl, a01, a02, a03⟩
              clear hZ2 hS X17 XA Q18 p0 p1 p2 e0 e1 e2 ef oG hfree kX
              go_wp2_with fail
              go_roundw
              case rel => exact ⟨k + 1, _, by go_num, by omega, hps, X18⟩
              case measure => simp [intOf]; omega
            · obtain rfl : k = gn := by omega
              rw [hlb] at p2
              have hts2 := HTG.out.step HBI.out hp
              have HTS2 := Lib.hid hts2
              clear hts2 hp hlb p0 p1
              go_wp2_with fail
              go_roundw
              case rel => exact ⟨i + 1, _, rs2, by go_num, by omega, HTS2.out, by rw [List.length_set]; exact HLN.out, X⟩
              case measure => simp [intOf]; omega
        · obtain rfl : i = p.sn := by omega
          have htl := HTL'.out
          have hxc := tg_ok HOK.out htl hts (fun s hs => (HSM.out.ss s hs).2.2.2.2.2.zero)
          have hxv : VoyAt wr wr.heap.size (⟨v.li, v.un, v.tr, v.le, v.hs, ss', ls'⟩ : Vg) ⟨HA, p.hn, hc, SA2, p.sn, sc2, LA, p.ln, lc⟩ := XI.voy rfl rfl rfl HHL.out hln HLE.out
          have hxf : Vp.Fit ⟨HA, p.hn, hc, SA2, p.sn, sc2, LA, p.ln, lc⟩ := ⟨by dsimp only; omega, by dsimp only; omega, by dsimp only; omega⟩
          have hxl : LvFit (⟨v.li, v.un, v.tr, v.le, v.hs, ss', ls'⟩ : Vg) := fun s hs => by have := ((ckV_ok hxc).ss s hs).l6; omega
          have hst2 : ckSt (⟨v.li, v.un, v.tr, v.le, v.hs, ss', ls'⟩ : Vg) s = 0 := tg_st htl hxc HST.out
          obtain ⟨hzv, how⟩ := tg_end HST.out hst2 htl hts
          obtain ⟨⟨d1, d2⟩, d3, d4⟩ := tg_deep (ss' := ss') htl (ckSt_ok HST.out)
          obtain ⟨g1, g2⟩ := tg_tilt (hs := v.hs) htl s
          have hlx := tg_lvl (v := v) (ss' := ss') (ls' := ls') g1 g2
          have HXF := Lib.hid hxf
          have HXL := Lib.hid hxl
          have HSX := Lib.hid hst2
          have kv := XI.ft.bx kV hgO
          have kx := XI.k
          have hvv := XI.ft.voy hFV hV
          have hss := XI.ft.sl hFV hSV (inr_no _)
          have hBw := XI.ft.be hBV hg0
          have hss4 := HOK.out.s4
          have hst := ckSt_ok HST.out
          have hol1 : (overM v (abd v.ls s)).length ≤ 4 := by
            rw [overM_len HOK.out (inH_held hst.inh)]
            exact Nat.le_trans (salM_len v _ false) HOK.out.s4
          have hxo := ckSt_ok hst2
          have hol2 : (overM (⟨v.li, v.un, v.tr, v.le, v.hs, ss', ls'⟩ : Vg) (abd ls' s)).length ≤ 4 := by
            rw [overM_len (v := (⟨v.li, v.un, v.tr, v.le, v.hs, ss', ls'⟩ : Vg)) hxo.ok (inH_held hxo.inh)]
            exact Nat.le_trans (salM_len (⟨v.li, v.un, v.tr, v.le, v.hs, ss', ls'⟩ : Vg) _ false) hxo.ok.s4
          obtain ⟨TL, hTL⟩ : ∃ y, tiltP v.hs (abd v.ls s) = y := ⟨_, rfl⟩
          obtain ⟨TX, hTX⟩ : ∃ y, tiltP v.hs (abd ls' s) = y := ⟨_, rfl⟩
          rw [hTL, hTX] at g1 g2 hlx
          obtain ⟨LV, hLV⟩ : ∃ y, lvlOk v TL = y := ⟨_, rfl⟩
          obtain ⟨LX, hLX⟩ : ∃ y, lvlOk (⟨v.li, v.un, v.tr, v.le, v.hs, ss', ls'⟩ : Vg) TX = y := ⟨_, rfl⟩
          rw [hLV, hLX] at hlx
          obtain ⟨B0, hB0⟩ : ∃ y, deepB v (abd v.ls s) true = y := ⟨_, rfl⟩
          obtain ⟨B1, hB1⟩ : ∃ y, deepB v (abd v.ls s) false = y := ⟨_, rfl⟩
          obtain ⟨S0, hS0⟩ : ∃ y, deepS v (abd v.ls s) true = y := ⟨_, rfl⟩
          obtain ⟨S1, hS1⟩ : ∃ y, deepS v (abd v.ls s) false = y := ⟨_, rfl⟩
          obtain ⟨C0, hC0⟩ : ∃ y, deepB (⟨v.li, v.un, v.tr, v.le, v.hs, ss', ls'⟩ : Vg) (abd ls' s) true = y := ⟨_, rfl⟩
          obtain ⟨C1, hC1⟩ : ∃ y, deepB (⟨v.li, v.un, v.tr, v.le, v.hs, ss', ls'⟩ : Vg) (abd ls' s) false = y := ⟨_, rfl⟩
          obtain ⟨D0, hD0⟩ : ∃ y, deepS (⟨v.li, v.un, v.tr, v.le, v.hs, ss', ls'⟩ : Vg) (abd ls' s) true = y := ⟨_, rfl⟩
          obtain ⟨D1, hD1⟩ : ∃ y, deepS (⟨v.li, v.un, v.tr, v.le, v.hs, ss', ls'⟩ : Vg) (abd ls' s) false = y := ⟨_, rfl⟩
          rw [hB0, hC0] at d1
          rw [hB1, hC1] at d2
          rw [hS0, hD0] at d3
          rw [hS1, hD1] at d4
          obtain ⟨vd, hvd⟩ : ∃ y, verdM v.ss.length (salM v (abd v.ls s) true).length (salM v (abd v.ls s) false).length = y := ⟨_, rfl⟩
          obtain ⟨zd, hzd⟩ : ∃ y, verdM ss'.length (salM (⟨v.li, v.un, v.tr, v.le, v.hs, ss', ls'⟩ : Vg) (abd ls' s) true).length (salM (⟨v.li, v.un, v.tr, v.le, v.hs, ss', ls'⟩ : Vg) (abd ls' s) false).length = y := ⟨_, rfl⟩
          rw [hvd, hzd] at hzv
          have hv3 : vd = 1 ∨ vd = 2 ∨ vd = 3 := by rw [← hvd]; unfold verdM; split; exact .inl rfl; split; exact .inr (.inl rfl); exact .inr (.inr rfl)
          obtain ⟨OV, hOV⟩ : ∃ y, overM v (abd v.ls s) = y := ⟨_, rfl⟩
          obtain ⟨OX, hOX⟩ : ∃ y, overM (⟨v.li, v.un, v.tr, v.le, v.hs, ss', ls'⟩ : Vg) (abd ls' s) = y := ⟨_, rfl⟩
          rw [hOV] at hol1
          rw [hOX] at hol2
          rw [hOV, hOX] at how
          obtain ⟨n1, hn1⟩ : ∃ y, OV.length = y := ⟨_, rfl⟩
          obtain ⟨n2, hn2⟩ : ∃ y, OX.length = y := ⟨_, rfl⟩
          have hn12 := how.1
          rw [hn1, hn2] at hn12
          rw [hn1] at hol1
          rw [hn2] at hol2
          have HTL := Lib.hid hTL
          have HXT := Lib.hid (show tiltP ((⟨v.li, v.un, v.tr, v.le, v.hs, ss', ls'⟩ : Vg)).hs (abd ((⟨v.li, v.un, v.tr, v.le, v.hs, ss', ls'⟩ : Vg)).ls s) = TX from hTX)
          have HB0 := Lib.hid hB0
          have HB1 := Lib.hid hB1
          have HS0 := Lib.hid hS0
          have HS1 := Lib.hid hS1
          have HXB0 := Lib.hid (show deepB (⟨v.li, v.un, v.tr, v.le, v.hs, ss', ls'⟩ : Vg) (abd ((⟨v.li, v.un, v.tr, v.le, v.hs, ss', ls'⟩ : Vg)).ls s) true = C0 from hC0)
          have HXB1 := Lib.hid (show deepB (⟨v.li, v.un, v.tr, v.le, v.hs, ss', ls'⟩ : Vg) (abd ((⟨v.li, v.un, v.tr, v.le, v.hs, ss', ls'⟩ : Vg)).ls s) false = C1 from hC1)
          have HXS0 := Lib.hid (show deepS (⟨v.li, v.un, v.tr, v.le, v.hs, ss', ls'⟩ : Vg) (abd ((⟨v.li, v.un, v.tr, v.le, v.hs, ss', ls'⟩ : Vg)).ls s) true = D0 from hD0)
          have HXS1 := Lib.hid (show deepS (⟨v.li, v.un, v.tr, v.le, v.hs, ss', ls'⟩ : Vg) (abd ((⟨v.li, v.un, v.tr, v.le, v.hs, ss', ls'⟩ : Vg)).ls s) false = D1 from hD1)
          have HVD := Lib.hid hvd
          have HXVD := Lib.hid (show verdM ((⟨v.li, v.un, v.tr, v.le, v.hs, ss', ls'⟩ : Vg)).ss.length (salM (⟨v.li, v.un, v.tr, v.le, v.hs, ss', ls'⟩ : Vg) (abd ((⟨v.li, v.un, v.tr, v.le, v.hs, ss', ls'⟩ : Vg)).ls s) true).length (salM (⟨v.li, v.un, v.tr, v.le, v.hs, ss', ls'⟩ : Vg) (abd ((⟨v.li, v.un, v.tr, v.le, v.hs, ss', ls'⟩ : Vg)).ls s) false).length = zd from hzd)
          have HOV := Lib.hid hOV
          have HXOV := Lib.hid (show overM (⟨v.li, v.un, v.tr, v.le, v.hs, ss', ls'⟩ : Vg) (abd ((⟨v.li, v.un, v.tr, v.le, v.hs, ss', ls'⟩ : Vg)).ls s) = OX from hOX)
          have HN1 := Lib.hid hn1
          have HN2 := Lib.hid hn2
          have HOW := Lib.hid how
          have HZV := Lib.hid hzv
          have HLX := Lib.hid hlx
          have HV3 := Lib.hid hv3
          obtain ⟨t1, t2⟩ := TL
          obtain ⟨u1, u2⟩ := TX
          dsimp only at g1 g2
          have HLV := Lib.hid hLV
          have HXLV := Lib.hid hLX
          obtain ⟨W, rfl⟩ : ∃ W, W = wr := ⟨_, rfl⟩
          clear htl hxc hxf hxl hst2 hst hxo hTL hTX hLV hLX hB0 hB1 hS0 hS1 hC0 hC1 hD0 hD1 hvd hzd hOV hOX hn1 hn2 how hzv hlx hv3 hts hln XI kX hi hin hV hSV hFV hBV kV
          clear l0 l1 l2 l3 l4 l5 l6 lf' lz
          obtain ⟨l0, l1, l2, l3, l4, l5, l6, lf', lz⟩ := kx.seven
          go_upto_region 17 with fail
          clear l0 l1 l2 l3 l4 l5 l6 lf' lz
          obtain ⟨l0, l1, l2, l3, l4, l5, l6, lf', lz⟩ := kv.seven
          go_upto_region 18 with (first
            | (go_at_call 23; refine (drafts_any v p SA p.ln sc s _ HFT.out HLF.out hvv hss HSL.out (by omega)).mono ?_; rintro e w9 ⟨rfl, hb⟩; rw [if_pos HST.out, HB0.out, HB1.out, HS0.out, HS1.out])
            | fail)
          clear l0 l1 l2 l3 l4 l5 l6 lf' lz
          have hc2 := (hb.alloc hb.size (.cells #[.int .i64 B0, .int .i64 B1] 41)).alloc (by have := hb.size; simp; omega) (.cells #[.int .i64 S0, .int .i64 S1] 41)
          replace kv := kv.call hc2
          replace kx := kx.call hc2
          replace hvv := hvv.call hc2
          replace hxv := hxv.call hc2
          replace hss := hss.call hc2
          replace hBw := hBw.trans (hc2.mono hBw.size)
          have k10 := (Bx.new w9 41 #[.int .i64 B0, .int .i64 B1]).alloc (.cells #[.int .i64 S0, .int .i64 S1] 41)
          have k11 := Bx.at (w9.alloc (.cells #[.int .i64 B0, .int .i64 B1] 41)) 41 #[.int .i64 S0, .int .i64 S1] (n := w9.heap.size + 1) (by simp)
          obtain ⟨Zw9, hZ⟩ : ∃ Z, (w9.alloc (.cells #[.int .i64 B0, .int .i64 B1] 41)).alloc (.cells #[.int .i64 S0, .int .i64 S1] 41) = Z := ⟨_, rfl⟩
          rw [hZ] at kv kx hvv hxv hss hBw k10 k11 ⊢
          obtain ⟨pk10, hp⟩ : ∃ q, w9.heap.size = q := ⟨_, rfl⟩
          rw [hp] at k10 k11 ⊢
          obtain ⟨pk11, hp2⟩ : ∃ q, pk10 + 1 = q := ⟨_, rfl⟩
          rw [hp2] at k11 ⊢
          clear hZ hp hp2 hb hc2
          obtain ⟨l0, l1, l2, l3, l4, l5, l6, lf', lz⟩ := kx.seven
          go_upto_region 19 with (first
            | (go_at_call 23; refine (drafts_any (⟨v.li, v.un, v.tr, v.le, v.hs, ss', ls'⟩ : Vg) ⟨HA, p.hn, hc, SA2, p.sn, sc2, LA, p.ln, lc⟩ SA p.ln sc s _ HXF.out HXL.out hxv hss HSL.out (by omega)).mono ?_; rintro e w10 ⟨rfl, hb⟩; rw [if_pos HSX.out, HXB0.out, HXB1.out, HXS0.out, HXS1.out])
            | fail)
          clear l0 l1 l2 l3 l4 l5 l6 lf' lz
          have hc2 := (hb.alloc hb.size (.cells #[.int .i64 C0, .int .i64 C1] 41)).alloc (by have := hb.size; simp; omega) (.cells #[.int .i64 D0, .int .i64 D1] 41)
          replace kv := kv.call hc2
          replace kx := kx.call hc2
          replace hvv := hvv.call hc2
          replace hxv := hxv.call hc2
          replace hss := hss.call hc2
          replace hBw := hBw.trans (hc2.mono hBw.size)
          replace k10 := k10.call hc2
          replace k11 := k11.call hc2
          have k13 := (Bx.new w10 41 #[.int .i64 C0, .int .i64 C1]).alloc (.cells #[.int .i64 D0, .int .i64 D1] 41)
          have k14 := Bx.at (w10.alloc (.cells #[.int .i64 C0, .int .i64 C1] 41)) 41 #[.int .i64 D0, .int .i64 D1] (n := w10.heap.size + 1) (by simp)
          obtain ⟨Zw10, hZ⟩ : ∃ Z, (w10.alloc (.cells #[.int .i64 C0, .int .i64 C1] 41)).alloc (.cells #[.int .i64 D0, .int .i64 D1] 41) = Z := ⟨_, rfl⟩
          rw [hZ] at kv kx hvv hxv hss hBw k10 k11 k13 k14 ⊢
          obtain ⟨pk13, hp⟩ : ∃ q, w10.heap.size = q := ⟨_, rfl⟩
          rw [hp] at k13 k14 ⊢
          obtain ⟨pk14, hp2⟩ : ∃ q, pk13 + 1 = q := ⟨_, rfl⟩
          rw [hp2] at k14 ⊢
          clear hZ hp hp2 hb hc2
          obtain ⟨l0, l1, l2, l3, l4, l5, l6, lf', lz⟩ := kv.seven
          go_upto_region 20 with (first
            | (go_at_call 25; refine (level_any v p SA p.ln sc s _ HFT.out HLF.out hvv hss HSL.out (by omega)).mono ?_; rintro e w11 ⟨rfl, hb⟩; rw [if_pos HST.out, HTL.out, HLV.out])
            | fail)
          clear l0 l1 l2 l3 l4 l5 l6 lf' lz
          try dsimp only
          have hc2 := hb.alloc hb.size (.cells #[.int .i64 t1, .int .i64 t2] 41)
          replace kv := kv.call hc2
          replace kx := kx.call hc2
          replace hvv := hvv.call hc2
          replace hxv := hxv.call hc2
          replace hss := hss.call hc2
          replace hBw := hBw.trans (hc2.mono hBw.size)
          replace k10 := k10.call hc2
          replace k11 := k11.call hc2
          replace k13 := k13.call hc2
          replace k14 := k14.call hc2
          have k17 := Bx.new w11 41 #[.int .i64 t1, .int .i64 t2]
          obtain ⟨Zw11, hZ⟩ : ∃ Z, w11.alloc (.cells #[.int .i64 t1, .int .i64 t2] 41) = Z := ⟨_, rfl⟩
          rw [hZ] at kv kx hvv hxv hss hBw k10 k11 k13 k14 k17 ⊢
          obtain ⟨pk17, hp⟩ : ∃ q, w11.heap.size = q := ⟨_, rfl⟩
          rw [hp] at k17 ⊢
          clear hZ hp hb hc2
          obtain ⟨l0, l1, l2, l3, l4, l5, l6, lf', lz⟩ := kx.seven
          go_upto_region 21 with (first
            | (go_at_call 25; refine (level_any (⟨v.li, v.un, v.tr, v.le, v.hs, ss', ls'⟩ : Vg) ⟨HA, p.hn, hc, SA2, p.sn, sc2, LA, p.ln, lc⟩ SA p.ln sc s _ HXF.out HXL.out hxv hss HSL.out (by omega)).mono ?_; rintro e w12 ⟨rfl, hb⟩; rw [if_pos HSX.out, HXT.out, HXLV.out])
            | fail)
          clear l0 l1 l2 l3 l4 l5 l6 lf' lz
          try dsimp only
          have hc2 := hb.alloc hb.size (.cells #[.int .i64 u1, .int .i64 u2] 41)
          replace kv := kv.call hc2
          replace kx := kx.call hc2
          replace hvv := hvv.call hc2
          replace hxv := hxv.call hc2
          replace hss := hss.call hc2
          replace hBw := hBw.trans (hc2.mono hBw.size)
          replace k10 := k10.call hc2
          replace k11 := k11.call hc2
          replace k13 := k13.call hc2
          replace k14 := k14.call hc2
          replace k17 := k17.call hc2
          have k20 := Bx.new w12 41 #[.int .i64 u1, .int .i64 u2]
          obtain ⟨Zw12, hZ⟩ : ∃ Z, w12.alloc (.cells #[.int .i64 u1, .int .i64 u2] 41) = Z := ⟨_, rfl⟩
          rw [hZ] at kv kx hvv hxv hss hBw k10 k11 k13 k14 k17 k20 ⊢
          obtain ⟨pk20, hp⟩ : ∃ q, w12.heap.size = q := ⟨_, rfl⟩
          rw [hp] at k20 ⊢
          clear hZ hp hb hc2
          obtain ⟨l0, l1, l2, l3, l4, l5, l6, lf', lz⟩ := kv.seven
          go_upto_region 22 with (first
            | (go_at_call 33; refine (sail33_any v p SA p.ln sc s _ HFT.out HLF.out hvv hss HSL.out (by omega)).mono ?_; rintro e w13 ⟨hp, hb⟩; rw [if_pos HST.out, HVD.out, HOV.out, HN1.out] at hp; obtain ⟨Xgr1, cgr1, rfl, ogr1⟩ := hp)
            | fail)
          clear l0 l1 l2 l3 l4 l5 l6 lf' lz
          replace kv := kv.call hb
          replace kx := kx.call hb
          replace hvv := hvv.call hb
          replace hxv := hxv.call hb
          replace hss := hss.call hb
          replace hBw := hBw.trans (hb.mono hBw.size)
          replace k10 := k10.call hb
          replace k11 := k11.call hb
          replace k13 := k13.call hb
          replace k14 := k14.call hb
          replace k17 := k17.call hb
          replace k20 := k20.call hb
          have gr1 := own_gnr ogr1 HN1.out
          clear hb ogr1
          obtain ⟨l0, l1, l2, l3, l4, l5, l6, lf', lz⟩ := kx.seven
          go_upto_region 23 with (first
            | (go_at_call 33; refine (sail33_any (⟨v.li, v.un, v.tr, v.le, v.hs, ss', ls'⟩ : Vg) ⟨HA, p.hn, hc, SA2, p.sn, sc2, LA, p.ln, lc⟩ SA p.ln sc s _ HXF.out HXL.out hxv hss HSL.out (by omega)).mono ?_; rintro e w14 ⟨hp, hb⟩; rw [if_pos HSX.out, HXVD.out, HXOV.out, HN2.out] at hp; obtain ⟨Xgr2, cgr2, rfl, ogr2⟩ := hp)
            | fail)
          clear l0 l1 l2 l3 l4 l5 l6 lf' lz
          replace kv := kv.call hb
          replace kx := kx.call hb
          replace hvv := hvv.call hb
          replace hxv := hxv.call hb
          replace hss := hss.call hb
          replace hBw := hBw.trans (hb.mono hBw.size)
          replace k10 := k10.call hb
          replace k11 := k11.call hb
          replace k13 := k13.call hb
          replace k14 := k14.call hb
          replace k17 := k17.call hb
          replace k20 := k20.call hb
          replace gr1 := gr1.call hb
          have gr2 := own_gnr ogr2 HN2.out
          clear hb ogr2
          clear kv kx hvv hxv hss
          obtain ⟨W14, hW14⟩ : ∃ x, w14 = x := ⟨_, rfl⟩
          rw [hW14] at hBw k10 k11 k13 k14 k17 k20 gr1 gr2 ⊢
          clear hW14
          go_cut [217] from 28 to 234 (fun v217 x => v217 = .bool false ∧ Below W14.heap.size W14 x)
          case first =>
            have hBc := Below.refl W14.heap.size W14
            obtain ⟨a0, a1, af, az⟩ := k10.two'; obtain ⟨b0, b1, bf, bz⟩ := k11.two'; obtain ⟨c0, c1, cf, cz⟩ := k13.two'; obtain ⟨d0, d1, df, dz⟩ := k14.two'; obtain ⟨e0, e1, ef, ez⟩ := k17.two'; obtain ⟨f0, f1, ff, fz⟩ := k20.two'
            have hv3 := HV3.out
            rcases hv3 with rfl | rfl | rfl
            · obtain rfl : zd = 1 := HZV.out (by decide)
              cases LV
              · go_wp2_with (first
                  | (go_at_call 46; refine (part_any _ _ _ _ (by omega) (by omega) _).mono ?_; rintro e y ⟨rfl, hbp⟩; replace k10 := k10.call hbp; replace k11 := k11.call hbp; replace k13 := k13.call hbp; replace k14 := k14.call hbp; replace k17 := k17.call hbp; replace k20 := k20.call hbp; replace hBc := hBc.trans (hbp.mono hBc.size); clear a0 a1 af az b0 b1 bf bz c0 c1 cf cz d0 d1 df dz e0 e1 ef ez f0 f1 ff fz; obtain ⟨a0, a1, af, az⟩ := k10.two'; obtain ⟨b0, b1, bf, bz⟩ := k11.two'; obtain ⟨c0, c1, cf, cz⟩ := k13.two'; obtain ⟨d0, d1, df, dz⟩ := k14.two'; obtain ⟨e0, e1, ef, ez⟩ := k17.two'; obtain ⟨f0, f1, ff, fz⟩ := k20.two'; clear hbp)
                  | fail)
                go_meet
                exact ⟨congrArg Value.bool (decide_eq_false (by omega)), hBc⟩
              · obtain rfl : LX = true := HLX.out rfl
                go_wp2_with (first
                  | (go_at_call 46; refine (part_any _ _ _ _ (by omega) (by omega) _).mono ?_; rintro e y ⟨rfl, hbp⟩; replace k10 := k10.call hbp; replace k11 := k11.call hbp; replace k13 := k13.call hbp; replace k14 := k14.call hbp; replace k17 := k17.call hbp; replace k20 := k20.call hbp; replace hBc := hBc.trans (hbp.mono hBc.size); clear a0 a1 af az b0 b1 bf bz c0 c1 cf cz d0 d1 df dz e0 e1 ef ez f0 f1 ff fz; obtain ⟨a0, a1, af, az⟩ := k10.two'; obtain ⟨b0, b1, bf, bz⟩ := k11.two'; obtain ⟨c0, c1, cf, cz⟩ := k13.two'; obtain ⟨d0, d1, df, dz⟩ := k14.two'; obtain ⟨e0, e1, ef, ez⟩ := k17.two'; obtain ⟨f0, f1, ff, fz⟩ := k20.two'; clear hbp)
                  | fail)
                go_meet
                exact ⟨congrArg Value.bool (decide_eq_false (by omega)), hBc⟩
            · obtain rfl : zd = 2 := HZV.out (by decide)
              cases LV
              · go_wp2_with (first
                  | (go_at_call 46; refine (part_any _ _ _ _ (by omega) (by omega) _).mono ?_; rintro e y ⟨rfl, hbp⟩; replace k10 := k10.call hbp; replace k11 := k11.call hbp; replace k13 := k13.call hbp; replace k14 := k14.call hbp; replace k17 := k17.call hbp; replace k20 := k20.call hbp; replace hBc := hBc.trans (hbp.mono hBc.size); clear a0 a1 af az b0 b1 bf bz c0 c1 cf cz d0 d1 df dz e0 e1 ef ez f0 f1 ff fz; obtain ⟨a0, a1, af, az⟩ := k10.two'; obtain ⟨b0, b1, bf, bz⟩ := k11.two'; obtain ⟨c0, c1, cf, cz⟩ := k13.two'; obtain ⟨d0, d1, df, dz⟩ := k14.two'; obtain ⟨e0, e1, ef, ez⟩ := k17.two'; obtain ⟨f0, f1, ff, fz⟩ := k20.two'; clear hbp)
                  | fail)
                go_meet
                exact ⟨congrArg Value.bool (decide_eq_false (by omega)), hBc⟩
              · obtain rfl : LX = true := HLX.out rfl
                go_wp2_with (first
                  | (go_at_call 46; refine (part_any _ _ _ _ (by omega) (by omega) _).mono ?_; rintro e y ⟨rfl, hbp⟩; replace k10 := k10.call hbp; replace k11 := k11.call hbp; replace k13 := k13.call hbp; replace k14 := k14.call hbp; replace k17 := k17.call hbp; replace k20 := k20.call hbp; replace hBc := hBc.trans (hbp.mono hBc.size); clear a0 a1 af az b0 b1 bf bz c0 c1 cf cz d0 d1 df dz e0 e1 ef ez f0 f1 ff fz; obtain ⟨a0, a1, af, az⟩ := k10.two'; obtain ⟨b0, b1, bf, bz⟩ := k11.two'; obtain ⟨c0, c1, cf, cz⟩ := k13.two'; obtain ⟨d0, d1, df, dz⟩ := k14.two'; obtain ⟨e0, e1, ef, ez⟩ := k17.two'; obtain ⟨f0, f1, ff, fz⟩ := k20.two'; clear hbp)
                  | fail)
                go_meet
                exact ⟨congrArg Value.bool (decide_eq_false (by omega)), hBc⟩
            · cases LV
              · go_wp2_with (first
                  | (go_at_call 46; refine (part_any _ _ _ _ (by omega) (by omega) _).mono ?_; rintro e y ⟨rfl, hbp⟩; replace k10 := k10.call hbp; replace k11 := k11.call hbp; replace k13 := k13.call hbp; replace k14 := k14.call hbp; replace k17 := k17.call hbp; replace k20 := k20.call hbp; replace hBc := hBc.trans (hbp.mono hBc.size); clear a0 a1 af az b0 b1 bf bz c0 c1 cf cz d0 d1 df dz e0 e1 ef ez f0 f1 ff fz; obtain ⟨a0, a1, af, az⟩ := k10.two'; obtain ⟨b0, b1, bf, bz⟩ := k11.two'; obtain ⟨c0, c1, cf, cz⟩ := k13.two'; obtain ⟨d0, d1, df, dz⟩ := k14.two'; obtain ⟨e0, e1, ef, ez⟩ := k17.two'; obtain ⟨f0, f1, ff, fz⟩ := k20.two'; clear hbp)
                  | fail)
                go_meet
                exact ⟨congrArg Value.bool (decide_eq_false (by omega)), hBc⟩
              · obtain rfl : LX = true := HLX.out rfl
                go_wp2_with (first
                  | (go_at_call 46; refine (part_any _ _ _ _ (by omega) (by omega) _).mono ?_; rintro e y ⟨rfl, hbp⟩; replace k10 := k10.call hbp; replace k11 := k11.call hbp; replace k13 := k13.call hbp; replace k14 := k14.call hbp; replace k17 := k17.call hbp; replace k20 := k20.call hbp; replace hBc := hBc.trans (hbp.mono hBc.size); clear a0 a1 af az b0 b1 bf bz c0 c1 cf cz d0 d1 df dz e0 e1 ef ez f0 f1 ff fz; obtain ⟨a0, a1, af, az⟩ := k10.two'; obtain ⟨b0, b1, bf, bz⟩ := k11.two'; obtain ⟨c0, c1, cf, cz⟩ := k13.two'; obtain ⟨d0, d1, df, dz⟩ := k14.two'; obtain ⟨e0, e1, ef, ez⟩ := k17.two'; obtain ⟨f0, f1, ff, fz⟩ := k20.two'; clear hbp)
                  | fail)
                go_meet
                exact ⟨congrArg Value.bool (decide_eq_false (by omega)), hBc⟩
          case rest =>
            obtain ⟨rfl, hb⟩ := hcut
            have hBc := hBw.trans (hb.mono hBw.size)
            replace gr1 := gr1.call hb
            replace gr2 := gr2.call hb
            obtain ⟨Wl, hWl⟩ : ∃ x, wc = x := ⟨_, rfl⟩
            rw [hWl] at hBc gr1 gr2 ⊢
            clear hWl hb hBw k10 k11 k13 k14 k17 k20
            go_wp2_with fail
            go_loopw [28] (fun iv wx => ∃ (k : Nat), iv = .int .i64 k ∧ k ≤ n1 ∧ Below Wl.heap.size Wl wx) (fun iv _ => n1 - (intOf iv).toNat)
            case atStart => exact ⟨0, rfl, by omega, Below.refl _ _⟩
            case round =>
              obtain ⟨k, rfl, hk, hI⟩ := hrel
              obtain ⟨wx, rfl⟩ : ∃ W, W = wr := ⟨_, rfl⟩
              by_cases hkn : k < n1
              · have hko : k < OV.length := by rw [HN1.out]; exact hkn
                have hkx : k < OX.length := by rw [HN2.out]; omega
                have hw := HOW.out.2 k _ _ (List.getElem?_eq_getElem hko) (List.getElem?_eq_getElem hkx)
                obtain ⟨e1, rfl, _, g0, g1⟩ := gnr_at (gr1.call hI) hko
                obtain ⟨e2, rfl, _, h0, h1⟩ := gnr_at (gr2.call hI) hkx
                generalize OV[k] = y at *
                generalize OX[k] = z at *
                have hw1 := hw.1
                have hw2 := hw.2
                have hkn2 : k < n2 := by omega
                have hkw : IntKind.i64.wrap ((k : Int) + 1) = (k : Int) + 1 := IntWalk.i64_in _ (by omega)
                clear hko hkx hw
                go_wp2_with fail
                refine AnyG.startC (by kernel_rfl) ?_
                refine AnyG.takeP (i := 0) (v := ?_) rfl (by kernel_rfl) (fun _ _ _ h => h) rfl ?_ ?_
                rotate_left
                · (intro w'; go_simp; try with_reducible rfl)
                try simp only [Act.put, List.getElem_toArray, List.getElem_cons_succ, List.getElem_cons_zero, List.setIfInBounds_toArray, List.set_cons_zero, List.set_cons_succ]
                refine AnyG.takeP (i := 1) (v := ?_) rfl (by kernel_rfl) (fun _ _ _ h => h) rfl ?_ ?_
                rotate_left
                · (intro w'; go_simp; try with_reducible rfl)
                try simp only [Act.put, List.getElem_toArray, List.getElem_cons_succ, List.getElem_cons_zero, List.setIfInBounds_toArray, List.set_cons_zero, List.set_cons_succ]
                refine AnyG.takeP (i := 2) (v := ?_) rfl (by kernel_rfl) (fun _ _ _ h => h) rfl ?_ ?_
                rotate_left
                · (intro w'; go_simp; try with_reducible rfl)
                try simp only [Act.put, List.getElem_toArray, List.getElem_cons_succ, List.getElem_cons_zero, List.setIfInBounds_toArray, List.set_cons_zero, List.set_cons_succ]
                refine AnyG.takeP (i := 4) (v := ?_) rfl (by kernel_rfl) (fun _ _ _ h => h) rfl ?_ ?_
                rotate_left
                · (intro w'; go_simp; try with_reducible rfl)
                try simp only [Act.put, List.getElem_toArray, List.getElem_cons_succ, List.getElem_cons_zero, List.setIfInBounds_toArray, List.set_cons_zero, List.set_cons_succ]
                refine AnyG.takeP (i := 5) (v := ?_) rfl (by kernel_rfl) (fun _ _ _ h => h) rfl ?_ ?_
                rotate_left
                · (intro w'; go_simp; try with_reducible rfl)
                try simp only [Act.put, List.getElem_toArray, List.getElem_cons_succ, List.getElem_cons_zero, List.setIfInBounds_toArray, List.set_cons_zero, List.set_cons_succ]
                refine AnyG.takeP (i := 6) (v := ?_) rfl (by kernel_rfl) (fun _ _ _ h => h) rfl ?_ ?_
                rotate_left
                · (intro w'; go_simp; try with_reducible rfl)
                try simp only [Act.put, List.getElem_toArray, List.getElem_cons_succ, List.getElem_cons_zero, List.setIfInBounds_toArray, List.set_cons_zero, List.set_cons_succ]
                refine AnyG.enter (fun w' : World => Below wx.heap.size wx w') (fun i => true) ?_
                have hS : (fun w' : World => Below wx.heap.size wx w') (World.drew _) := (Below.refl _ _).drew
                refine AnyG.takeC (i := 3) (v := ?_) rfl (by kernel_rfl) (fun _ _ _ h => h) rfl ?_ hS ?_
                rotate_left
                · (intro w' hSw; (try dsimp only at hSw); have p0 := cellC hSw h0; have p1 := cellC hSw h1; go_simp; try with_reducible rfl)
                try simp only [Act.put, List.getElem_toArray, List.getElem_cons_succ, List.getElem_cons_zero, List.setIfInBounds_toArray, List.set_cons_zero, List.set_cons_succ]
                refine AnyG.takeC (i := 7) (v := ?_) rfl (by kernel_rfl) (fun _ _ _ h => h) rfl ?_ hS ?_
                rotate_left
                · (intro w' hSw; (try dsimp only at hSw); have p0 := cellC hSw g0; have p1 := cellC hSw g1; go_simp; try with_reducible rfl)
                try simp only [Act.put, List.getElem_toArray, List.getElem_cons_succ, List.getElem_cons_zero, List.setIfInBounds_toArray, List.set_cons_zero, List.set_cons_succ]
                refine AnyG.one (i := 8) (by kernel_rfl) rfl rfl ?_
                go_simp
                refine (part_any _ _ _ _ (by omega) (by omega) _).mono ?_
                rintro er y8 ⟨rfl, hb8⟩
                refine Onward.on (hS.trans (hb8.mono hS.size)) (fun hS2 => ?_)
                clear hS
                have hS := hS2
                clear hS2
                try simp only [Act.put, List.getElem_toArray, List.getElem_cons_succ, List.getElem_cons_zero, List.setIfInBounds_toArray, List.set_cons_zero, List.set_cons_succ]
                refine AnyG.takeC (i := 9) (v := ?_) rfl (by kernel_rfl) (fun _ _ _ h => h) rfl ?_ hS ?_
                rotate_left
                · (intro w' hSw; (try dsimp only at hSw); go_simp; try with_reducible rfl)
                try simp only [Act.put, List.getElem_toArray, List.getElem_cons_succ, List.getElem_cons_zero, List.setIfInBounds_toArray, List.set_cons_zero, List.set_cons_succ]
                refine AnyG.done (by kernel_rfl) ?_ _
                go_simp
                have hE : Below wx.heap.size wx y8 := hS
                clear hS
                go_wp2_with fail
                go_roundw
                case rel => exact ⟨k + 1, by go_num, by omega, hI.trans (hE.mono hI.size)⟩
                case measure => simp [intOf]; omega
              · obtain rfl : k = n1 := by omega
                have hBd := hBc.trans (hI.mono hBc.size)
                go_wp2_with (first
                  | (go_at_call 15; refine (awake_any _).mono ?_; rintro e w11 ⟨rfl, hb11⟩)
                  | fail)
                go_ret
                exact ⟨rfl, hBd.trans (hb11.mono hBd.size)⟩
end Go.Proofs.Ytfcpjkofbejleaa
