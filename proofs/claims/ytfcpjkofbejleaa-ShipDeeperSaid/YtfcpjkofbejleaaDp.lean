/- ShipDeeper. -/
import Derived.Test.YtfcpjkofbejleaaDeaM
set_option linter.unusedSimpArgs false
set_option linter.unusedVariables false
namespace Go.Proofs.Ytfcpjkofbejleaa
open Go Go.RowKit
set_option maxRecDepth 100000 in
set_option maxHeartbeats 8000000 in
theorem shipDeeper_run (A : Option Addr) (n c : Nat) (L : List Int) (w : World) (hn : n ≤ 9000000000000000000) (hl : L.length = n) (hA : Sl w w.heap.size 1 A (ints L)) : Calls Try.prog 10 #[.slice A n c] w fun e w' => e = .returned (.bool true) ∧ Below w.heap.size w w' := by
  have HL := Lib.hid hl
  clear hl
  obtain ⟨i3, hi3, hz3, hs3, iy3⟩ := info_parts info3'
  go_enter Try.func10, Try.ntmps10
  go_upto_region 3 with (first
    | (go_at_call 16; refine (feedOf_any A n c L _ hn HL.out hA).mono ?_; rintro e w1 ⟨⟨g, rfl, hg0, hfd⟩, hb1⟩)
    | (go_at_call 18; have U1 := (FT.self hfd).alloc (.cells #[.int .i64 4, .int .i64 30] 3); refine (either_any g w1.heap.size 2 #[.int .i64 4, .int .i64 30] (fun z => z = 4 ∨ z = 30) _ U1.2 (Bx.new w1 3 _) (by have := hfd.lt; omega) (by omega) (by omega) (bx2 _ (by omega) (by omega))).mono ?_; rintro e w2 ⟨⟨T, rfl, hT⟩, hf2, hg2⟩; have U2 := U1.call hg2 hf2; clear hf2 hg2 U1)
    | (go_at_call 17; refine (voyageOf_any g 3 4 6 T _ U2.2 (by omega) (by omega) (by omega) (by omega) (by omega) (by omega) (by omega) (by omega)).mono ?_; rintro e w3 ⟨⟨v, p, hsm, hFit, rfl, hV0⟩, hU3⟩; have U3 : FT g w1 w3 := ⟨grownF_trans U2.1 hU3.1, hU3.2⟩; rw [vcs_def]; clear hU3 U2)
    | fail)
  have hok := hsm.ok (by omega) (by omega) (by omega) (by omega)
  have hck := hsm.ck (by omega) (by omega) (by omega) (by omega)
  have hlf := hsm.lf
  have HSM := Lib.hid hsm
  have HOK := Lib.hid hok
  have HCK := Lib.hid hck
  have HLF := Lib.hid hlf
  have HFT := Lib.hid hFit
  have hln6 : p.ln ≤ 6 := by rw [← hV0.ll]; exact hok.l6
  have hsn4 : p.sn ≤ 4 := by rw [← hV0.sl]; exact hok.s4
  have hhn3 : p.hn ≤ 3 := by rw [← hV0.hl]; exact hok.h3
  have hhn1 : 1 ≤ p.hn := by rw [← hV0.hl]; exact hok.h1
  have B1 := (Below.refl w3.heap.size w3).alloc (Nat.le_refl _) (.cells #[.int .i64 v.li, .int .i64 v.un, .int .i64 v.tr, .slice p.HA p.hn p.hc, .int .i64 v.le, .slice p.SA p.sn p.sc, .slice p.LA p.ln p.lc] 26)
  have kO := Bx.new w3 26 #[.int .i64 v.li, .int .i64 v.un, .int .i64 v.tr, .slice p.HA p.hn p.hc, .int .i64 v.le, .slice p.SA p.sn p.sc, .slice p.LA p.ln p.lc]
  have hO := hV0.call B1
  have U4 := U3.alloc (.cells #[.int .i64 v.li, .int .i64 v.un, .int .i64 v.tr, .slice p.HA p.hn p.hc, .int .i64 v.le, .slice p.SA p.sn p.sc, .slice p.LA p.ln p.lc] 26)
  have hgl := U3.2.lt
  have hw13 := U3.size
  obtain ⟨V1, hV1⟩ : ∃ V, w3.alloc (.cells #[.int .i64 v.li, .int .i64 v.un, .int .i64 v.tr, .slice p.HA p.hn p.hc, .int .i64 v.le, .slice p.SA p.sn p.sc, .slice p.LA p.ln p.lc] 26) = V := ⟨_, rfl⟩
  rw [hV1] at kO hO U4 ⊢
  obtain ⟨bO, hbO⟩ : ∃ b, w3.heap.size = b := ⟨_, rfl⟩
  rw [hbO] at kO hgl ⊢
  have hgO : bO ≠ g := by omega
  clear hV1 hbO B1 hV0 U3 hsm hok hck hlf hFit hw13
  obtain ⟨l0, l1, l2, l3, l4, l5, l6, lf', lz⟩ := kO.seven
  go_upto_region 4 with (first
    | (go_at_call 19; refine (stowageOf_any g v p _ U4.2 HCK.out hO).mono ?_; rintro e V ⟨⟨SA, sc, s, rfl, hsl, hst, hSV⟩, hU5⟩; have U5 : FT g w1 V := ⟨grownF_trans U4.1 hU5.1, hU5.2⟩)
    | fail)
  have HSL := Lib.hid hsl
  have HST := Lib.hid hst
  have kV := hU5.bx kO hgO
  have hV := hU5.voy U4.2 hO
  have hBV := U5.be hb1 hg0
  have hFV := U5.2
  clear hb1 hfd U4 U5 hU5 l0 l1 l2 l3 l4 l5 l6 lf' lz kO hO hsl hst hgl
  have HHL := Lib.hid hV.hl
  have HSS := Lib.hid hV.sl
  have HLL := Lib.hid hV.ll
  have hTb : T ≤ 30 := by omega
  have hT0 : 0 ≤ T := by omega
  obtain ⟨l0, l1, l2, l3, l4, l5, l6, lf', lz⟩ := kV.seven
  go_upto_region 5 with (first
    | (go_at_call 22; refine (copyVoyage_any v p _ HOK.out hV).mono ?_; rintro e y3 ⟨HA, hc, SA2, sc2, LA, lc, rs, rfl, oh, os, so, ap, ol, hq3⟩)
    | fail)
  clear l0 l1 l2 l3 l4 l5 l6 lf' lz
  have C0 : CV V y3.heap.size v.li v.un v.tr v.le v.hs v.ss v.ls (.slice HA p.hn hc) (.slice SA2 p.sn sc2) (.slice LA p.ln lc) rs (y3.alloc (.cells #[.int .i64 v.li, .int .i64 v.un, .int .i64 v.tr, .slice HA p.hn hc, .int .i64 v.le, .slice SA2 p.sn sc2, .slice LA p.ln lc] 26)) :=
    ⟨Bx.new _ _ _, by rw [HHL.out]; exact oh.alloc _, by rw [HSS.out]; exact os.alloc _, so.bel (bel1 _ _), ap, by rw [HLL.out]; exact ol.alloc _, hq3.alloc hq3.size _, hq3.size⟩
  have X0 := XV.of C0 hFV
  obtain ⟨q6, hq6⟩ : ∃ q, y3.heap.size = q := ⟨_, rfl⟩
  obtain ⟨U, hU0⟩ : ∃ U, y3.alloc (.cells #[.int .i64 v.li, .int .i64 v.un, .int .i64 v.tr, .slice HA p.hn hc, .int .i64 v.le, .slice SA2 p.sn sc2, .slice LA p.ln lc] 26) = U := ⟨_, rfl⟩
  rw [hU0] at X0 ⊢
  rw [hq6] at X0 ⊢
  clear hU0 hq6 C0 oh os so ap ol hq3
  have hvle := HSM.out.le
  have hvun := HSM.out.un
  have kU := X0.ft.bx kV hgO
  refine AnyG.startC (by kernel_rfl) ?_
  refine AnyG.takeP (i := 0) (v := ?_) rfl (by kernel_rfl) (fun _ _ _ h => h) rfl ?_ ?_
  rotate_left
  · (intro w'; go_simp; try with_reducible rfl)
  try simp only [Act.put, List.getElem_toArray, List.getElem_cons_succ, List.getElem_cons_zero, List.setIfInBounds_toArray, List.set_cons_zero, List.set_cons_succ]
  refine AnyG.takeP (i := 1) (v := ?_) rfl (by kernel_rfl) (fun _ _ _ h => h) rfl ?_ ?_
  rotate_left
  · (intro w'; go_simp; try with_reducible rfl)
  try simp only [Act.put, List.getElem_toArray, List.getElem_cons_succ, List.getElem_cons_zero, List.setIfInBounds_toArray, List.set_cons_zero, List.set_cons_succ]
  refine AnyG.takeP (i := 4) (v := ?_) rfl (by kernel_rfl) (fun _ _ _ h => h) rfl ?_ ?_
  rotate_left
  · (intro w'; go_simp; try with_reducible rfl)
  try simp only [Act.put, List.getElem_toArray, List.getElem_cons_succ, List.getElem_cons_zero, List.setIfInBounds_toArray, List.set_cons_zero, List.set_cons_succ]
  refine AnyG.takeP (i := 5) (v := ?_) rfl (by kernel_rfl) (fun _ _ _ h => h) rfl ?_ ?_
  rotate_left
  · (intro w'; go_simp; try with_reducible rfl)
  try simp only [Act.put, List.getElem_toArray, List.getElem_cons_succ, List.getElem_cons_zero, List.setIfInBounds_toArray, List.set_cons_zero, List.set_cons_succ]
  refine AnyG.enter (fun w' : World => FT g U w') (fun i => i != 9 && i != 10 && i != 11) ?_
  have hS : (fun w' : World => FT g U w') (World.drew _) := (FT.self X0.ft.2).drew
  refine AnyG.takeC (i := 2) (v := ?_) rfl (by kernel_rfl) (fun _ _ _ h => h) rfl ?_ hS ?_
  rotate_left
  · (intro w' hSw; (try dsimp only at hSw); obtain ⟨x0, x1, x2, x3, x4, x5, x6, xf, xz⟩ := (FT.bx hSw kU hgO).seven; go_simp; try with_reducible rfl)
  try simp only [Act.put, List.getElem_toArray, List.getElem_cons_succ, List.getElem_cons_zero, List.setIfInBounds_toArray, List.set_cons_zero, List.set_cons_succ]
  refine AnyG.takeC (i := 6) (v := ?_) rfl (by kernel_rfl) (fun _ _ _ h => h) rfl ?_ hS ?_
  rotate_left
  · (intro w' hSw; (try dsimp only at hSw); obtain ⟨x0, x1, x2, x3, x4, x5, x6, xf, xz⟩ := (FT.bx hSw kU hgO).seven; go_simp; try with_reducible rfl)
  try simp only [Act.put, List.getElem_toArray, List.getElem_cons_succ, List.getElem_cons_zero, List.setIfInBounds_toArray, List.set_cons_zero, List.set_cons_succ]
  refine AnyG.one (i := 3) (by kernel_rfl) rfl rfl ?_
  go_simp
  refine (between_any g 0 v.le _ hS.2 (by omega) (by omega) (by omega) (by omega)).mono ?_
  rintro er y3 ⟨⟨le, rfl, le1, le2⟩, hfx, hgx⟩
  refine Onward.on (hS.call hgx hfx) (fun hS2 => ?_)
  clear hS
  have hS := hS2
  clear hS2
  try simp only [Act.put, List.getElem_toArray, List.getElem_cons_succ, List.getElem_cons_zero, List.setIfInBounds_toArray, List.set_cons_zero, List.set_cons_succ]
  refine AnyG.takeC (i := 8) (v := ?_) rfl (by kernel_rfl) (fun _ _ _ h => h) rfl ?_ hS ?_
  rotate_left
  · (intro w' hSw; (try dsimp only at hSw); go_simp; try with_reducible rfl)
  try simp only [Act.put, List.getElem_toArray, List.getElem_cons_succ, List.getElem_cons_zero, List.setIfInBounds_toArray, List.set_cons_zero, List.set_cons_succ]
  refine AnyG.one (i := 7) (by kernel_rfl) rfl rfl ?_
  go_simp
  refine (between_any g 0 v.un _ hS.2 (by omega) (by omega) (by omega) (by omega)).mono ?_
  rintro er y7 ⟨⟨un, rfl, un1, un2⟩, hfx, hgx⟩
  have Q7 := hS.call hgx hfx
  have X7 := X0.go Q7
  refine Onward.on Q7 (fun hS2 => ?_)
  clear hS
  have hS := hS2
  clear hS2
  try simp only [Act.put, List.getElem_toArray, List.getElem_cons_succ, List.getElem_cons_zero, List.setIfInBounds_toArray, List.set_cons_zero, List.set_cons_succ]
  refine AnyG.one (i := 9) (by kernel_rfl) rfl rfl ?_
  obtain ⟨x0, x1, x2, x3, x4, x5, x6, xf, xz⟩ := X7.k.seven
  go_simp
  have X8 := X7.num 4 le v.un le rfl
  clear x0 x1 x2 x3 x4 x5 x6 xf xz
  refine Onward.last rfl ?_
  try simp only [Act.put, List.getElem_toArray, List.getElem_cons_succ, List.getElem_cons_zero, List.setIfInBounds_toArray, List.set_cons_zero, List.set_cons_succ]
  refine AnyG.one (i := 10) (by kernel_rfl) rfl rfl ?_
  go_simp
  refine Onward.last rfl ?_
  try simp only [Act.put, List.getElem_toArray, List.getElem_cons_succ, List.getElem_cons_zero, List.setIfInBounds_toArray, List.set_cons_zero, List.set_cons_succ]
  refine AnyG.one (i := 11) (by kernel_rfl) rfl rfl ?_
  obtain ⟨x0, x1, x2, x3, x4, x5, x6, xf, xz⟩ := X8.k.seven
  go_simp
  have X9 := X8.num 1 un un le rfl
  clear x0 x1 x2 x3 x4 x5 x6 xf xz
  refine Onward.last rfl ?_
  try simp only [Act.put, List.getElem_toArray, List.getElem_cons_succ, List.getElem_cons_zero, List.setIfInBounds_toArray, List.set_cons_zero, List.set_cons_succ]
  refine AnyG.done (by kernel_rfl) ?_ _
  go_simp
  have hule : 0 ≤ le ∧ le ≤ v.le := by omega
  have huun : 0 ≤ un ∧ un ≤ v.un := by omega
  obtain ⟨Z, hZ⟩ : ∃ Z, (y7.setCell ⟨q6, 4, none⟩ (.int .i64 le)).setCell ⟨q6, 1, none⟩ (.int .i64 un) = Z := ⟨_, rfl⟩
  rw [hZ] at X9 ⊢
  clear hZ X0 X7 X8 Q7 hS kU le1 le2 un1 un2
  go_wp2_with fail
  go_loopw [7] (fun iv wr => ∃ (i : Nat) (ss' : List Si) (rs' : List (List Value)), iv = .int .i64 i ∧ i ≤ p.sn ∧ DpSs v.ss ss' i ∧ ss'.length = p.sn ∧ XV g V q6 v.li un v.tr le v.hs ss' v.ls (.slice HA p.hn hc) (.slice SA2 p.sn sc2) (.slice LA p.ln lc) rs' wr) (fun iv _ => p.sn - (intOf iv).toNat)
  case atStart => exact ⟨0, v.ss, rs, rfl, by omega, .start _, HSS.out, X9⟩
  case round =>
    clear X9
    obtain ⟨i, ss', rs', rfl, hi, hdp, hln, XI⟩ := hrel
    have kX := XI.k
    obtain ⟨l0, l1, l2, l3, l4, l5, l6, lf', lz⟩ := kX.seven
    by_cases hin : i < p.sn
    · have hil : i < v.ss.length := by rw [HSS.out]; exact hin
      have hget := List.getElem?_eq_getElem hil
      have hsm := HSM.out.ss _ (List.getElem_mem hil)
      generalize v.ss[i] = b at *
      obtain ⟨b', hb', _, hbe⟩ := hdp.row i b hget
      rw [hbe (Nat.le_refl _)] at hb'
      have HB := Lib.hid hget
      have HBI := Lib.hid hb'
      have HLN := Lib.hid hln
      have HDP := Lib.hid hdp
      have HSL := Lib.hid hsm.2.2.2.2.2
      have hb0 := hsm.1
      have hb1 := hsm.2.1
      have hb2 := hsm.2.2.1
      have hb4 := hsm.2.2.2.2.1
      have hos := XI.os
      rw [hln] at hos
      obtain ⟨yq, rfl⟩ := own_some hos (by omega)
      clear hos
      have haq : (⟨yq, 0, none⟩ : Addr).add (i * 3) = ⟨yq, i * 3, none⟩ := by unfold Addr.add; split <;> simp_all
      have hiw : IntKind.i64.wrap ((i : Int) + 1) = (i : Int) + 1 := IntWalk.i64_in _ (by omega)
      clear hget hb' hln hdp hsm hil hbe
      go_wp2_with fail
      clear l0 l1 l2 l3 l4 l5 l6 lf' lz kX
      obtain ⟨U, rfl⟩ : ∃ U, U = wr := ⟨_, rfl⟩
      refine AnyG.startC (by kernel_rfl) ?_
      refine AnyG.takeP (i := 0) (v := ?_) rfl (by kernel_rfl) (fun _ _ _ h => h) rfl ?_ ?_
      rotate_left
      · (intro w'; go_simp; try with_reducible rfl)
      try simp only [Act.put, List.getElem_toArray, List.getElem_cons_succ, List.getElem_cons_zero, List.setIfInBounds_toArray, List.set_cons_zero, List.set_cons_succ]
      refine AnyG.takeP (i := 1) (v := ?_) rfl (by kernel_rfl) (fun _ _ _ h => h) rfl ?_ ?_
      rotate_left
      · (intro w'; go_simp; try with_reducible rfl)
      try simp only [Act.put, List.getElem_toArray, List.getElem_cons_succ, List.getElem_cons_zero, List.setIfInBounds_toArray, List.set_cons_zero, List.set_cons_succ]
      refine AnyG.takeP (i := 2) (v := ?_) rfl (by kernel_rfl) (fun _ _ _ h => h) rfl ?_ ?_
      rotate_left
      · (intro w'; go_simp; try with_reducible rfl)
      try simp only [Act.put, List.getElem_toArray, List.getElem_cons_succ, List.getElem_cons_zero, List.setIfInBounds_toArray, List.set_cons_zero, List.set_cons_succ]
      refine AnyG.takeP (i := 3) (v := ?_) rfl (by kernel_rfl) (fun _ _ _ h => h) rfl ?_ ?_
      rotate_left
      · (intro w'; go_simp; try with_reducible rfl)
      try simp only [Act.put, List.getElem_toArray, List.getElem_cons_succ, List.getElem_cons_zero, List.setIfInBounds_toArray, List.set_cons_zero, List.set_cons_succ]
      refine AnyG.takeP (i := 4) (v := ?_) rfl (by kernel_rfl) (fun _ _ _ h => h) rfl ?_ ?_
      rotate_left
      · (intro w'; go_simp; try with_reducible rfl)
      try simp only [Act.put, List.getElem_toArray, List.getElem_cons_succ, List.getElem_cons_zero, List.setIfInBounds_toArray, List.set_cons_zero, List.set_cons_succ]
      refine AnyG.takeP (i := 5) (v := ?_) rfl (by kernel_rfl) (fun _ _ _ h => h) rfl ?_ ?_
      rotate_left
      · (intro w'; go_simp; try with_reducible rfl)
      try simp only [Act.put, List.getElem_toArray, List.getElem_cons_succ, List.getElem_cons_zero, List.setIfInBounds_toArray, List.set_cons_zero, List.set_cons_succ]
      refine AnyG.takeP (i := 8) (v := ?_) rfl (by kernel_rfl) (fun _ _ _ h => h) rfl ?_ ?_
      rotate_left
      · (intro w'; go_simp; try with_reducible rfl)
      try simp only [Act.put, List.getElem_toArray, List.getElem_cons_succ, List.getElem_cons_zero, List.setIfInBounds_toArray, List.set_cons_zero, List.set_cons_succ]
      refine AnyG.takeP (i := 9) (v := ?_) rfl (by kernel_rfl) (fun _ _ _ h => h) rfl ?_ ?_
      rotate_left
      · (intro w'; go_simp; try with_reducible rfl)
      try simp only [Act.put, List.getElem_toArray, List.getElem_cons_succ, List.getElem_cons_zero, List.setIfInBounds_toArray, List.set_cons_zero, List.set_cons_succ]
      refine AnyG.takeP (i := 10) (v := ?_) rfl (by kernel_rfl) (fun _ _ _ h => h) rfl ?_ ?_
      rotate_left
      · (intro w'; go_simp; try with_reducible rfl)
      try simp only [Act.put, List.getElem_toArray, List.getElem_cons_succ, List.getElem_cons_zero, List.setIfInBounds_toArray, List.set_cons_zero, List.set_cons_succ]
      refine AnyG.takeP (i := 11) (v := ?_) rfl (by kernel_rfl) (fun _ _ _ h => h) rfl ?_ ?_
      rotate_left
      · (intro w'; go_simp; try with_reducible rfl)
      try simp only [Act.put, List.getElem_toArray, List.getElem_cons_succ, List.getElem_cons_zero, List.setIfInBounds_toArray, List.set_cons_zero, List.set_cons_succ]
      refine AnyG.takeP (i := 12) (v := ?_) rfl (by kernel_rfl) (fun _ _ _ h => h) rfl ?_ ?_
      rotate_left
      · (intro w'; go_simp; try with_reducible rfl)
      try simp only [Act.put, List.getElem_toArray, List.getElem_cons_succ, List.getElem_cons_zero, List.setIfInBounds_toArray, List.set_cons_zero, List.set_cons_succ]
      refine AnyG.takeP (i := 14) (v := ?_) rfl (by kernel_rfl) (fun _ _ _ h => h) rfl ?_ ?_
      rotate_left
      · (intro w'; go_simp; try with_reducible rfl)
      try simp only [Act.put, List.getElem_toArray, List.getElem_cons_succ, List.getElem_cons_zero, List.setIfInBounds_toArray, List.set_cons_zero, List.set_cons_succ]
      refine AnyG.takeP (i := 15) (v := ?_) rfl (by kernel_rfl) (fun _ _ _ h => h) rfl ?_ ?_
      rotate_left
      · (intro w'; go_simp; try with_reducible rfl)
      try simp only [Act.put, List.getElem_toArray, List.getElem_cons_succ, List.getElem_cons_zero, List.setIfInBounds_toArray, List.set_cons_zero, List.set_cons_succ]
      refine AnyG.takeP (i := 16) (v := ?_) rfl (by kernel_rfl) (fun _ _ _ h => h) rfl ?_ ?_
      rotate_left
      · (intro w'; go_simp; try with_reducible rfl)
      try simp only [Act.put, List.getElem_toArray, List.getElem_cons_succ, List.getElem_cons_zero, List.setIfInBounds_toArray, List.set_cons_zero, List.set_cons_succ]
      refine AnyG.takeP (i := 17) (v := ?_) rfl (by kernel_rfl) (fun _ _ _ h => h) rfl ?_ ?_
      rotate_left
      · (intro w'; go_simp; try with_reducible rfl)
      try simp only [Act.put, List.getElem_toArray, List.getElem_cons_succ, List.getElem_cons_zero, List.setIfInBounds_toArray, List.set_cons_zero, List.set_cons_succ]
      refine AnyG.enter (fun w' : World => FT g U w') (fun i => i != 23) ?_
      have hS : (fun w' : World => FT g U w') (World.drew _) := (FT.self XI.ft.2).drew
      refine AnyG.takeC (i := 6) (v := ?_) rfl (by kernel_rfl) (fun _ _ _ h => h) rfl ?_ hS ?_
      rotate_left
      · (intro w' hSw; (try dsimp only at hSw); obtain ⟨G9, gc9, p0, p1, p2, _⟩ := (XI.go hSw).at_ HLN.out HBI.out; go_simp; try with_reducible rfl)
      try simp only [Act.put, List.getElem_toArray, List.getElem_cons_succ, List.getElem_cons_zero, List.setIfInBounds_toArray, List.set_cons_zero, List.set_cons_succ]
      refine AnyG.takeC (i := 13) (v := ?_) rfl (by kernel_rfl) (fun _ _ _ h => h) rfl ?_ hS ?_
      rotate_left
      · (intro w' hSw; (try dsimp only at hSw); obtain ⟨G9, gc9, p0, p1, p2, _⟩ := (XI.go hSw).at_ HLN.out HBI.out; go_simp; try with_reducible rfl)
      try simp only [Act.put, List.getElem_toArray, List.getElem_cons_succ, List.getElem_cons_zero, List.setIfInBounds_toArray, List.set_cons_zero, List.set_cons_succ]
      refine AnyG.takeC (i := 18) (v := ?_) rfl (by kernel_rfl) (fun _ _ _ h => h) rfl ?_ hS ?_
      rotate_left
      · (intro w' hSw; (try dsimp only at hSw); obtain ⟨G9, gc9, p0, p1, p2, _⟩ := (XI.go hSw).at_ HLN.out HBI.out; go_simp; try with_reducible rfl)
      try simp only [Act.put, List.getElem_toArray, List.getElem_cons_succ, List.getElem_cons_zero, List.setIfInBounds_toArray, List.set_cons_zero, List.set_cons_succ]
      refine AnyG.one (i := 7) (by kernel_rfl) rfl rfl ?_
      go_simp
      refine (between_any g 0 b.t0 _ hS.2 (by omega) (by omega) (by omega) (by omega)).mono ?_
      rintro er y7 ⟨⟨a0, rfl, a01, a02⟩, hfx, hgx⟩
      refine Onward.on (hS.call hgx hfx) (fun hS2 => ?_)
      clear hS
      have hS := hS2
      clear hS2
      try simp only [Act.put, List.getElem_toArray, List.getElem_cons_succ, List.getElem_cons_zero, List.setIfInBounds_toArray, List.set_cons_zero, List.set_cons_succ]
      refine AnyG.one (i := 19) (by kernel_rfl) rfl rfl ?_
      go_simp
      refine (between_any g b.t0 b.t1 _ hS.2 (by omega) (by omega) (by omega) (by omega)).mono ?_
      rintro er y19 ⟨⟨a1, rfl, a11, a12⟩, hfx, hgx⟩
      refine Onward.on (hS.call hgx hfx) (fun hS2 => ?_)
      clear hS
      have hS := hS2
      clear hS2
      try simp only [Act.put, List.getElem_toArray, List.getElem_cons_succ, List.getElem_cons_zero, List.setIfInBounds_toArray, List.set_cons_zero, List.set_cons_succ]
      refine AnyG.one (i := 20) (by kernel_rfl) rfl rfl ?_
      go_simp
      refine (rng_any _ _ _).mono ?_
      rintro er y20 ⟨rfl, hb20⟩
      have Q20 := hS.bel hb20
      have X20 := XI.go Q20
      refine Onward.on Q20 (fun hS2 => ?_)
      clear hS
      have hS := hS2
      clear hS2
      try simp only [Act.put, List.getElem_toArray, List.getElem_cons_succ, List.getElem_cons_zero, List.setIfInBounds_toArray, List.set_cons_zero, List.set_cons_succ]
      refine AnyG.takeC (i := 21) (v := ?_) rfl (by kernel_rfl) (fun _ _ _ h => h) rfl ?_ hS ?_
      rotate_left
      · (intro w' hSw; (try dsimp only at hSw); go_simp; try with_reducible rfl)
      try simp only [Act.put, List.getElem_toArray, List.getElem_cons_succ, List.getElem_cons_zero, List.setIfInBounds_toArray, List.set_cons_zero, List.set_cons_succ]
      refine AnyG.takeC (i := 22) (v := ?_) rfl (by kernel_rfl) (fun _ _ _ h => h) rfl ?_ hS ?_
      rotate_left
      · (intro w' hSw; (try dsimp only at hSw); go_simp; try with_reducible rfl)
      try simp only [Act.put, List.getElem_toArray, List.getElem_cons_succ, List.getElem_cons_zero, List.setIfInBounds_toArray, List.set_cons_zero, List.set_cons_succ]
      refine AnyG.one (i := 23) (by kernel_rfl) rfl rfl ?_
      obtain ⟨G9, gc9, p0, p1, p2, hH9, o9⟩ := X20.at_ HLN.out HBI.out
      have hos2 := X20.os
      rw [HLN.out] at hos2
      have hfr := own_free hos2
      obtain ⟨rs1, X21, hH1⟩ := X20.cell HLN.out HBI.out (b' := ⟨a0, b.t1, b.lv⟩) 0 (by decide) a0 rfl (fun A C => rfl)
      obtain ⟨rs2, X22, hH2⟩ := X21.cell (by rw [List.length_set]; exact HLN.out) (i := i) (b := ⟨a0, b.t1, b.lv⟩) (by rw [List.getElem?_set_self (by rw [HLN.out]; exact hin)]) (b' := ⟨a0, a1, b.lv⟩) 1 (by decide) a1 rfl (fun A C => rfl)
      go_simp
      rw [Nat.add_zero] at X22
      rw [List.set_set] at X22
      have hH3 := hH2 i _ (hH1 i _ hH9)
      clear p0 p1 p2 hfr
      refine Onward.last rfl ?_
      try simp only [Act.put, List.getElem_toArray, List.getElem_cons_succ, List.getElem_cons_zero, List.setIfInBounds_toArray, List.set_cons_zero, List.set_cons_succ]
      refine AnyG.done (by kernel_rfl) ?_ _
      go_simp
      have wyy : IntKind.i64.wrap ((i : Int) + 1) = (i : Int) + 1 := IntWalk.i64_in _ (by omega)
      obtain ⟨gn, hgn⟩ : ∃ n, b.lv.length = n := ⟨_, rfl⟩
      have HGN := Lib.hid hgn
      have hg4 : gn ≤ 4 := by omega
      obtain ⟨Z, hZ⟩ : ∃ Z, (y20.setCell ⟨yq, i * 3, none⟩ (.int .i64 a0)).setCell ⟨yq, i * 3 + 1, none⟩ (.int .i64 a1) = Z := ⟨_, rfl⟩
      rw [hZ] at X22 ⊢
      have hst0 := DpP.start (s := b) (a := a0) (b := a1) a01 (by omega) (by omega) (by omega)
      clear hZ hgn hS X20 X21 Q20 hb20 o9 hH1 hH2 hH3 hH9 hos2
      go_wp2_with fail
      go_loopw [9] (fun kv wr => ∃ (k : Nat) (b1 : Si), kv = .int .i64 k ∧ k ≤ gn ∧ DpP b b1 k ∧ XV g V q6 v.li un v.tr le v.hs (ss'.set i b1) v.ls (.slice HA p.hn hc) (.slice (some ⟨yq, 0, none⟩) p.sn sc2) (.slice LA p.ln lc) rs2 wr) (fun kv _ => gn - (intOf kv).toNat)
      case atStart => exact ⟨0, _, rfl, by omega, hst0, X22⟩
      case round =>
        clear X22 hst0
        obtain ⟨k, b1, rfl, hk, hp, X⟩ := hrel
        have hlb := hp.len
        rw [HGN.out] at hlb
        have HB1 := Lib.hid (show (ss'.set i b1)[i]? = some b1 from List.getElem?_set_self (by rw [HLN.out]; exact hin))
        obtain ⟨G, gc, p0, p1, p2, hH, oG⟩ := X.at_ (by rw [List.length_set]; exact HLN.out) HB1.out
        have hfree : ∀ o, wr.frozen? ⟨yq, o, none⟩ = false := by
          have o := X.os
          rw [List.length_set, HLN.out] at o
          exact own_free o
        by_cases hkn : k < gn
        · have hkb : k < b.lv.length := by rw [HGN.out]; exact hkn
          have hlg := List.getElem?_eq_getElem hkb
          obtain ⟨l', hl1, _, hle⟩ := hp.lv k _ hlg
          rw [hle (Nat.le_refl _)] at hl1
          have hlo := HSL.out.ok _ (List.getElem_mem hkb)
          generalize b.lv[k] = l at *
          obtain ⟨gq, rfl⟩ := own_some oG (by rw [hlb]; omega)
          have HL0 := Lib.hid hlg
          have HL1 := Lib.hid hl1
          have HP := Lib.hid hp
          have HKL := Lib.hid (show k < b1.lv.length by rw [hlb]; exact hkn)
          have HLB := Lib.hid hlb
          obtain ⟨e0, e1, e2, ef⟩ := lvl_cells oG hl1
          rw [hlb] at p2
          have haq2 : (⟨gq, 0, none⟩ : Addr).add (k * 3) = ⟨gq, k * 3, none⟩ := by unfold Addr.add; split <;> simp_all
          have hkw : IntKind.i64.wrap ((k : Int) + 1) = (k : Int) + 1 := IntWalk.i64_in _ (by omega)
          have wd1 : IntKind.i64.wrap (l.d1 + 2) = l.d1 + 2 := IntWalk.i64_in _ (by omega)
          clear hlg hl1 hp hlb hle hkb
          go_upto_region 15 with fail
          have FA := (FT.self X.ft.2).alloc (.cells #[.int .i64 l.d0, .int .i64 l.d1] 41)
          have XA := X.go FA
          have k10 := Bx.new wr 41 #[.int .i64 l.d0, .int .i64 l.d1]
          have p2A := FA.cell X.ft.2 p2 (fun _ e => by cases e)
          have oA := FA.row X.ft.2 oG (by decide)
          have hq10 : wr.heap.size ≠ g := by have := X.ft.2.lt; omega
          obtain ⟨U2, hU2⟩ : ∃ W, wr.alloc (.cells #[.int .i64 l.d0, .int .i64 l.d1] 41) = W := ⟨_, rfl⟩
          rw [hU2] at XA k10 p2A oA ⊢
          obtain ⟨q10, hq⟩ : ∃ q, wr.heap.size = q := ⟨_, rfl⟩
          rw [hq] at k10 hq10 ⊢
          clear hU2 hq FA X p0 p1 p2 oG e0 e1 e2 ef hfree
          refine AnyG.startC (by kernel_rfl) ?_
          refine AnyG.takeP (i := 0) (v := ?_) rfl (by kernel_rfl) (fun _ _ _ h => h) rfl ?_ ?_
          rotate_left
          · (intro w'; go_simp; try with_reducible rfl)
          try simp only [Act.put, List.getElem_toArray, List.getElem_cons_succ, List.getElem_cons_zero, List.setIfInBounds_toArray, List.set_cons_zero, List.set_cons_succ]
          refine AnyG.takeP (i := 1) (v := ?_) rfl (by kernel_rfl) (fun _ _ _ h => h) rfl ?_ ?_
          rotate_left
          · (intro w'; go_simp; try with_reducible rfl)
          try simp only [Act.put, List.getElem_toArray, List.getElem_cons_succ, List.getElem_cons_zero, List.setIfInBounds_toArray, List.set_cons_zero, List.set_cons_succ]
          refine AnyG.takeP (i := 2) (v := ?_) rfl (by kernel_rfl) (fun _ _ _ h => h) rfl ?_ ?_
          rotate_left
          · (intro w'; go_simp; try with_reducible rfl)
          try simp only [Act.put, List.getElem_toArray, List.getElem_cons_succ, List.getElem_cons_zero, List.setIfInBounds_toArray, List.set_cons_zero, List.set_cons_succ]
          refine AnyG.takeP (i := 4) (v := ?_) rfl (by kernel_rfl) (fun _ _ _ h => h) rfl ?_ ?_
          rotate_left
          · (intro w'; go_simp; try with_reducible rfl)
          try simp only [Act.put, List.getElem_toArray, List.getElem_cons_succ, List.getElem_cons_zero, List.setIfInBounds_toArray, List.set_cons_zero, List.set_cons_succ]
          refine AnyG.takeP (i := 5) (v := ?_) rfl (by kernel_rfl) (fun _ _ _ h => h) rfl ?_ ?_
          rotate_left
          · (intro w'; go_simp; try with_reducible rfl)
          try simp only [Act.put, List.getElem_toArray, List.getElem_cons_succ, List.getElem_cons_zero, List.setIfInBounds_toArray, List.set_cons_zero, List.set_cons_succ]
          refine AnyG.takeP (i := 7) (v := ?_) rfl (by kernel_rfl) (fun _ _ _ h => h) rfl ?_ ?_
          rotate_left
          · (intro w'; go_simp; try with_reducible rfl)
          try simp only [Act.put, List.getElem_toArray, List.getElem_cons_succ, List.getElem_cons_zero, List.setIfInBounds_toArray, List.set_cons_zero, List.set_cons_succ]
          refine AnyG.takeP (i := 10) (v := ?_) rfl (by kernel_rfl) (fun _ _ _ h => h) rfl ?_ ?_
          rotate_left
          · (intro w'; go_simp; try with_reducible rfl)
          try simp only [Act.put, List.getElem_toArray, List.getElem_cons_succ, List.getElem_cons_zero, List.setIfInBounds_toArray, List.set_cons_zero, List.set_cons_succ]
          refine AnyG.takeP (i := 13) (v := ?_) rfl (by kernel_rfl) (fun _ _ _ h => h) rfl ?_ ?_
          rotate_left
          · (intro w'; go_simp; try with_reducible rfl)
          try simp only [Act.put, List.getElem_toArray, List.getElem_cons_succ, List.getElem_cons_zero, List.setIfInBounds_toArray, List.set_cons_zero, List.set_cons_succ]
          refine AnyG.enter (fun w' : World => Bx w' q10 41 #[.int .i64 l.d0, .int .i64 l.d1] ∧ FT g U2 w') (fun i => i != 19) ?_
          have hS : (fun w' : World => Bx w' q10 41 #[.int .i64 l.d0, .int .i64 l.d1] ∧ FT g U2 w') (World.drew _) := ⟨k10.drew, (FT.self XA.ft.2).drew⟩
          refine AnyG.takeC (i := 3) (v := ?_) rfl (by kernel_rfl) (fun _ _ _ h => h) rfl ?_ hS ?_
          rotate_left
          · (intro w' hSw; (try dsimp only at hSw); have p9 := hSw.2.cell XA.ft.2 p2A (fun _ e => by cases e); go_simp; try with_reducible rfl)
          try simp only [Act.put, List.getElem_toArray, List.getElem_cons_succ, List.getElem_cons_zero, List.setIfInBounds_toArray, List.set_cons_zero, List.set_cons_succ]
          refine AnyG.takeC (i := 6) (v := ?_) rfl (by kernel_rfl) (fun _ _ _ h => h) rfl ?_ hS ?_
          rotate_left
          · (intro w' hSw; (try dsimp only at hSw); obtain ⟨x0, x1, xf, xz⟩ := hSw.1.two'; go_simp; try with_reducible rfl)
          try simp only [Act.put, List.getElem_toArray, List.getElem_cons_succ, List.getElem_cons_zero, List.setIfInBounds_toArray, List.set_cons_zero, List.set_cons_succ]
          refine AnyG.takeC (i := 11) (v := ?_) rfl (by kernel_rfl) (fun _ _ _ h => h) rfl ?_ hS ?_
          rotate_left
          · (intro w' hSw; (try dsimp only at hSw); obtain ⟨x0, x1, xf, xz⟩ := hSw.1.two'; go_simp; try with_reducible rfl)
          try simp only [Act.put, List.getElem_toArray, List.getElem_cons_succ, List.getElem_cons_zero, List.setIfInBounds_toArray, List.set_cons_zero, List.set_cons_succ]
          refine AnyG.takeC (i := 12) (v := ?_) rfl (by kernel_rfl) (fun _ _ _ h => h) rfl ?_ hS ?_
          rotate_left
          · (intro w' hSw; (try dsimp only at hSw); go_simp; try with_reducible rfl)
          try simp only [Act.put, List.getElem_toArray, List.getElem_cons_succ, List.getElem_cons_zero, List.setIfInBounds_toArray, List.set_cons_zero, List.set_cons_succ]
          refine AnyG.one (i := 8) (by kernel_rfl) rfl rfl ?_
          go_simp
          refine (below_any g 3 _ hS.2.2 (by omega) (by omega)).mono ?_
          rintro er y8 ⟨⟨f0, rfl, f01, f02⟩, hfx, hgx⟩
          have wd0 : IntKind.i64.wrap (l.d0 + f0) = l.d0 + f0 := IntWalk.i64_in _ (by omega)
          refine Onward.on ⟨FT.bx ⟨hgx, hfx⟩ hS.1 hq10, hS.2.call hgx hfx⟩ (fun hS2 => ?_)
          clear hS
          have hS := hS2
          clear hS2
          try simp only [Act.put, List.getElem_toArray, List.getElem_cons_succ, List.getElem_cons_zero, List.setIfInBounds_toArray, List.set_cons_zero, List.set_cons_succ]
          refine AnyG.takeC (i := 9) (v := ?_) rfl (by kernel_rfl) (fun _ _ _ h => h) rfl ?_ hS ?_
          rotate_left
          · (intro w' hSw; (try dsimp only at hSw); go_simp; try with_reducible rfl)
          try simp only [Act.put, List.getElem_toArray, List.getElem_cons_succ, List.getElem_cons_zero, List.setIfInBounds_toArray, List.set_cons_zero, List.set_cons_succ]
          refine AnyG.one (i := 14) (by kernel_rfl) rfl rfl ?_
          go_simp
          refine (below_any g 3 _ hS.2.2 (by omega) (by omega)).mono ?_
          rintro er y14 ⟨⟨f1, rfl, f11, f12⟩, hfx, hgx⟩
          have wd2 : IntKind.i64.wrap (l.d1 + 2 + f1) = l.d1 + 2 + f1 := IntWalk.i64_in _ (by omega)
          refine Onward.on ⟨FT.bx ⟨hgx, hfx⟩ hS.1 hq10, hS.2.call hgx hfx⟩ (fun hS2 => ?_)
          clear hS
          have hS := hS2
          clear hS2
          try simp only [Act.put, List.getElem_toArray, List.getElem_cons_succ, List.getElem_cons_zero, List.setIfInBounds_toArray, List.set_cons_zero, List.set_cons_succ]
          refine AnyG.takeC (i := 15) (v := ?_) rfl (by kernel_rfl) (fun _ _ _ h => h) rfl ?_ hS ?_
          rotate_left
          · (intro w' hSw; (try dsimp only at hSw); go_simp; try with_reducible rfl)
          try simp only [Act.put, List.getElem_toArray, List.getElem_cons_succ, List.getElem_cons_zero, List.setIfInBounds_toArray, List.set_cons_zero, List.set_cons_succ]
          refine AnyG.one (i := 16) (by kernel_rfl) rfl rfl ?_
          go_simp
          refine (rng_any _ _ _).mono ?_
          rintro er y16 ⟨rfl, hb16⟩
          have Q16 := hS.2.bel hb16
          have X16 := XA.go Q16
          have o16 := Q16.row XA.ft.2 oA (by decide)
          refine Onward.on ⟨hS.1.call hb16, Q16⟩ (fun hS2 => ?_)
          clear hS
          have hS := hS2
          clear hS2
          try simp only [Act.put, List.getElem_toArray, List.getElem_cons_succ, List.getElem_cons_zero, List.setIfInBounds_toArray, List.set_cons_zero, List.set_cons_succ]
          refine AnyG.takeC (i := 17) (v := ?_) rfl (by kernel_rfl) (fun _ _ _ h => h) rfl ?_ hS ?_
          rotate_left
          · (intro w' hSw; (try dsimp only at hSw); go_simp; try with_reducible rfl)
          try simp only [Act.put, List.getElem_toArray, List.getElem_cons_succ, List.getElem_cons_zero, List.setIfInBounds_toArray, List.set_cons_zero, List.set_cons_succ]
          refine AnyG.takeC (i := 18) (v := ?_) rfl (by kernel_rfl) (fun _ _ _ h => h) rfl ?_ hS ?_
          rotate_left
          · (intro w' hSw; (try dsimp only at hSw); go_simp; try with_reducible rfl)
          try simp only [Act.put, List.getElem_toArray, List.getElem_cons_succ, List.getElem_cons_zero, List.setIfInBounds_toArray, List.set_cons_zero, List.set_cons_succ]
          refine AnyG.one (i := 19) (by kernel_rfl) rfl rfl ?_
          obtain ⟨e0, e1, e2, ef⟩ := lvl_cells o16 HL1.out
          go_simp
          have X17 := X16.dep hH HB1.out HL1.out (l' := ⟨l.fr, l.d0 + f0, l.d1⟩) 1 (by decide) (l.d0 + f0) rfl
          have X18 := X17.dep (i := i) (j := k) (b := ⟨b1.t0, b1.t1, b1.lv.set k ⟨l.fr, l.d0 + f0, l.d1⟩⟩) (l := ⟨l.fr, l.d0 + f0, l.d1⟩) hH (by rw [List.getElem?_set_self (by rw [List.length_set, HLN.out]; exact hin)]) (by dsimp only; exact List.getElem?_set_self HKL.out) (l' := ⟨l.fr, l.d0 + f0, l.d1 + 2 + f1⟩) 2 (by decide) (l.d1 + 2 + f1) rfl
          simp only [List.set_set] at X18
          clear e0 e1 e2 ef
          refine Onward.last rfl ?_
          try simp only [Act.put, List.getElem_toArray, List.getElem_cons_succ, List.getElem_cons_zero, List.setIfInBounds_toArray, List.set_cons_zero, List.set_cons_succ]
          refine AnyG.done (by kernel_rfl) ?_ _
          go_simp
          obtain ⟨Z2, hZ2⟩ : ∃ Z, (y16.setCell ⟨gq, k * 3 + 1, none⟩ (.int .i64 (l.d0 + f0))).setCell ⟨gq, k * 3 + 2, none⟩ (.int .i64 (l.d1 + 2 + f1)) = Z := ⟨_, rfl⟩
          rw [hZ2] at X18 ⊢
          have hps := HP.out.step HL0.out (l' := ⟨l.fr, l.d0 + f0, l.d1 + 2 + f1⟩) ⟨rfl, by dsimp only; omega, by dsimp only; omega, by dsimp only; omega, by dsimp only; omega⟩
          clear hZ2 hS X16 X17 o16 Q16 hb16
          go_wp2_with fail
          go_roundw
          case rel => exact ⟨k + 1, _, by go_num, by omega, hps, X18⟩
          case measure => simp [intOf]; omega
        · obtain rfl : k = gn := by omega
          rw [hlb] at p2
          have hpn : DpP b b1 b.lv.length := by rw [HGN.out]; exact hp
          have hds := HDP.out.step HB.out hpn
          have HDS := Lib.hid hds
          clear hpn hds hp hlb p0 p1
          go_wp2_with fail
          go_roundw
          case rel => exact ⟨i + 1, _, rs2, by go_num, by omega, HDS.out, by rw [List.length_set]; exact HLN.out, X⟩
          case measure => simp [intOf]; omega
    · obtain rfl : i = p.sn := by omega
      have hdp2 : DpSs v.ss ss' v.ss.length := by rw [HSS.out]; exact hdp
      have hxc := deeper_ok HSM.out HOK.out (by omega) hdp2 huun hule
      have hxv : VoyAt wr wr.heap.size (⟨v.li, un, v.tr, le, v.hs, ss', v.ls⟩ : Vg) ⟨HA, p.hn, hc, SA2, p.sn, sc2, LA, p.ln, lc⟩ := XI.voy rfl rfl rfl HHL.out hln HLL.out
      have hxf : Vp.Fit ⟨HA, p.hn, hc, SA2, p.sn, sc2, LA, p.ln, lc⟩ := ⟨by dsimp only; omega, by dsimp only; omega, by dsimp only; omega⟩
      have hxl : LvFit (⟨v.li, un, v.tr, le, v.hs, ss', v.ls⟩ : Vg) := fun s hs => by have := ((ckV_ok hxc).ss s hs).l6; omega
      have hst2 : ckSt (⟨v.li, un, v.tr, le, v.hs, ss', v.ls⟩ : Vg) s = 0 := deeper_st (v := v) (x := (⟨v.li, un, v.tr, le, v.hs, ss', v.ls⟩ : Vg)) hxc rfl rfl HST.out
      obtain ⟨hnw, hnl⟩ := deeper_sooner (s := s) HST.out hxc hdp2 huun.2 hule.2
      have hvd := hnw.verd
      rw [hln] at hvd
      have hss := HSS.out
      have hol1 := Nat.le_trans (Nat.le_of_eq (overM_len HOK.out (inH_held (ckSt_ok HST.out).inh))) (salM_len v (abd v.ls s) false)
      have hol2 := Nat.le_trans (Nat.le_of_eq (overM_len (ckSt_ok hst2).ok (inH_held (ckSt_ok hst2).inh))) (salM_len (⟨v.li, un, v.tr, le, v.hs, ss', v.ls⟩ : Vg) (abd v.ls s) false)
      rw [hss] at hol1
      replace hol2 : (overM (⟨v.li, un, v.tr, le, v.hs, ss', v.ls⟩ : Vg) (abd v.ls s)).length ≤ p.sn := by rw [← hln]; exact hol2
      have HS2 := Lib.hid hst2
      have HXF := Lib.hid hxf
      have HXL := Lib.hid hxl
      obtain ⟨y, hy⟩ : ∃ y, verdM p.sn (salM v (abd v.ls s) true).length (salM v (abd v.ls s) false).length = y := ⟨_, rfl⟩
      obtain ⟨z, hz⟩ : ∃ y, verdM p.sn (salM (⟨v.li, un, v.tr, le, v.hs, ss', v.ls⟩ : Vg) (abd v.ls s) true).length (salM (⟨v.li, un, v.tr, le, v.hs, ss', v.ls⟩ : Vg) (abd v.ls s) false).length = y := ⟨_, rfl⟩
      obtain ⟨O1, hO1⟩ : ∃ y, overM v (abd v.ls s) = y := ⟨_, rfl⟩
      obtain ⟨O2, hO2⟩ : ∃ y, overM (⟨v.li, un, v.tr, le, v.hs, ss', v.ls⟩ : Vg) (abd v.ls s) = y := ⟨_, rfl⟩
      rw [hO1] at hol1
      rw [hO2] at hol2
      rw [hO1, hO2] at hnl
      rw [hy, hz] at hvd
      obtain ⟨n1, hn1⟩ : ∃ y, O1.length = y := ⟨_, rfl⟩
      obtain ⟨n2, hn2⟩ : ∃ y, O2.length = y := ⟨_, rfl⟩
      rw [hn1] at hol1
      rw [hn2] at hol2
      have HY := Lib.hid (show verdM v.ss.length (salM v (abd v.ls s) true).length (salM v (abd v.ls s) false).length = y by rw [hss]; exact hy)
      have HZ := Lib.hid (show verdM ((⟨v.li, un, v.tr, le, v.hs, ss', v.ls⟩ : Vg)).ss.length (salM (⟨v.li, un, v.tr, le, v.hs, ss', v.ls⟩ : Vg) (abd ((⟨v.li, un, v.tr, le, v.hs, ss', v.ls⟩ : Vg)).ls s) true).length (salM (⟨v.li, un, v.tr, le, v.hs, ss', v.ls⟩ : Vg) (abd ((⟨v.li, un, v.tr, le, v.hs, ss', v.ls⟩ : Vg)).ls s) false).length = z by show verdM ss'.length _ _ = z; rw [hln]; exact hz)
      have HO1 := Lib.hid hO1
      have HO2 := Lib.hid (show overM (⟨v.li, un, v.tr, le, v.hs, ss', v.ls⟩ : Vg) (abd ((⟨v.li, un, v.tr, le, v.hs, ss', v.ls⟩ : Vg)).ls s) = O2 from hO2)
      have HN1 := Lib.hid hn1
      have HN2 := Lib.hid hn2
      have HNL2 := Lib.hid hnl
      have HVD2 := Lib.hid hvd
      have kW := XI.ft.bx kV hgO
      have kx := XI.k
      have hVW := XI.ft.voy hFV hV
      have hSW := XI.ft.sl hFV hSV (inr_no _)
      have hBW := XI.ft.be hBV hg0
      clear hy hz hO1 hO2 hn1 hn2 hnl hvd hnw hst2 hss hxf hxl hxc hdp2 hdp hln XI kX
      go_upto_region 16 with fail
      clear l0 l1 l2 l3 l4 l5 l6 lf' lz
      obtain ⟨l0, l1, l2, l3, l4, l5, l6, lf', lz⟩ := kW.seven
      go_upto_region 17 with (first
        | (go_at_call 33; refine (sail33_any v p SA p.ln sc s _ HFT.out HLF.out hVW hSW HSL.out (by omega)).mono ?_; rintro e w8 ⟨hp8, hb8⟩; rw [if_pos HST.out, HY.out, HO1.out, HN1.out] at hp8; obtain ⟨X8, x8, rfl, o8⟩ := hp8)
        | fail)
      clear l0 l1 l2 l3 l4 l5 l6 lf' lz
      have kx8 := kx.call hb8
      have hx8 := hxv.call hb8
      have hS8 := hSW.call hb8
      have hB8 := hBW.trans (hb8.mono hBW.size)
      clear kW hVW hBW hb8 hSW hxv kx
      obtain ⟨l0, l1, l2, l3, l4, l5, l6, lf', lz⟩ := kx8.seven
      go_upto_region 18 with (first
        | (go_at_call 33; refine (sail33_any (⟨v.li, un, v.tr, le, v.hs, ss', v.ls⟩ : Vg) ⟨HA, p.hn, hc, SA2, p.sn, sc2, LA, p.ln, lc⟩ SA p.ln sc s _ HXF.out HXL.out hx8 hS8 HSL.out (by omega)).mono ?_; rintro e w9 ⟨hp9, hb9⟩; rw [if_pos HS2.out, HZ.out, HO2.out, HN2.out] at hp9; obtain ⟨X9, x9, rfl, o9⟩ := hp9)
        | fail)
      clear l0 l1 l2 l3 l4 l5 l6 lf' lz
      have o8' := own_gnr (own_bel o8 hb9) HN1.out
      have o9' := own_gnr o9 HN2.out
      have hB9 := hB8.trans (hb9.mono hB8.size)
      clear kx8 hx8 hS8 hB8 hb9 o8 o9
      go_wp2_with (first
        | (go_at_call 47; refine (sooner_any y z X8 n1 x8 X9 n2 x9 O1 O2 _ HVD2.out.1 HVD2.out.2 HN1.out HN2.out (by omega) (by omega) HNL2.out o8' o9').mono ?_; rintro e w10 ⟨rfl, hb10⟩)
        | (go_at_call 15; refine (awake_any _).mono ?_; rintro e w11 ⟨rfl, hb11⟩)
        | fail)
      have hB10 := hB9.trans (hb10.mono hB9.size)
      go_ret
      exact ⟨rfl, hB10.trans (hb11.mono hB10.size)⟩
end Go.Proofs.Ytfcpjkofbejleaa
