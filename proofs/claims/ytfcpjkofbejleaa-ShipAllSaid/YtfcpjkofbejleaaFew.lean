/- few 42: a voyage with few truths. -/
import Derived.Test.YtfcpjkofbejleaaFwm
set_option linter.unusedSimpArgs false
set_option linter.unusedVariables false
namespace Go.Proofs.Ytfcpjkofbejleaa
open Go Go.RowKit
def FewP (g : Nat) (w : World) (e : Ending) (w' : World) : Prop :=
  (∃ (v : Vg) (p : Vp), FewV v ∧ p.Fit ∧ e = .returned (.agg (vcs v p)) ∧ VoyAt w' w'.heap.size v p) ∧ FT g w w'
set_option maxRecDepth 100000 in
set_option maxHeartbeats 8000000 in
theorem few_any (g : Nat) (w : World) (h : Fd g w) : Calls Try.prog 42 #[.pointer (some ⟨g, 0, none⟩)] w (FewP g w) := by
  have hgl := h.lt
  have F1 := (FT.self h).alloc (.cells #[.int .i64 0, .int .i64 0, .int .i64 0, .slice none 0 0, .int .i64 0, .slice none 0 0, .slice none 0 0] 26)
  have kz := Bx.new w 26 #[.int .i64 0, .int .i64 0, .int .i64 0, .slice none 0 0, .int .i64 0, .slice none 0 0, .slice none 0 0]
  have hg1 : g < (w.alloc (.cells #[.int .i64 0, .int .i64 0, .int .i64 0, .slice none 0 0, .int .i64 0, .slice none 0 0, .slice none 0 0] 26)).heap.size := by simp; omega
  go_enter Try.func42, Try.ntmps42
  go_upto_region 2 with (first
    | (go_at_call 17; refine (voyageOf_own g 2 2 2 4 _ F1.2 (by omega) (by omega) (by omega) (by omega) (by omega) (by omega) (by omega) (by omega)).mono ?_; rintro e w2 ⟨v, p, rs, hsm, hFit, rfl, hO⟩; rw [vcs_def])
    | fail)
  have X0 := XV.ofOV hO hg1
  have HSM := Lib.hid hsm
  have HFT := Lib.hid hFit
  have hln2 : p.ln ≤ 2 := by have := hO.ll; have := hsm.ln; omega
  have hsn2 : p.sn ≤ 2 := by have := hO.sl; have := hsm.sn; omega
  have HHL := Lib.hid hO.hl
  have HSS := Lib.hid hO.sl
  have HLL := Lib.hid hO.ll
  obtain ⟨q, hq⟩ : ∃ x, w2.heap.size = x := ⟨_, rfl⟩
  obtain ⟨U, hU⟩ : ∃ x, w2.alloc (.cells #[.int .i64 v.li, .int .i64 v.un, .int .i64 v.tr, .slice p.HA p.hn p.hc, .int .i64 v.le, .slice p.SA p.sn p.sc, .slice p.LA p.ln p.lc] 26) = x := ⟨_, rfl⟩
  rw [hU, hq] at X0
  rw [hU, hq]
  clear hU hq hO hsm hFit
  obtain ⟨w1, hw1⟩ : ∃ x, w.alloc (.cells #[.int .i64 0, .int .i64 0, .int .i64 0, .slice none 0 0, .int .i64 0, .slice none 0 0, .slice none 0 0] 26) = x := ⟨_, rfl⟩
  rw [hw1] at F1 kz hg1 X0
  have hgz : w.heap.size ≠ g := by omega
  have hzw : w.heap.size < w1.heap.size := by rw [← hw1]; simp
  clear hw1
  obtain ⟨SA, hSA⟩ : ∃ x, p.SA = x := ⟨_, rfl⟩
  obtain ⟨LA, hLA⟩ : ∃ x, p.LA = x := ⟨_, rfl⟩
  rw [hSA, hLA] at X0
  rw [hSA, hLA]
  have HSA := Lib.hid hSA
  have HLA := Lib.hid hLA
  clear hSA hLA
  go_wp2_with fail
  go_loopw [4] (fun iv wr => ∃ (i : Nat) (ls' : List Cg), iv = .int .i64 i ∧ i ≤ p.ln ∧ Chg fwC v.ls ls' i ∧ ls'.length = p.ln ∧ XV g w1 q v.li v.un v.tr v.le v.hs v.ss ls' (.slice p.HA p.hn p.hc) (.slice SA p.sn p.sc) (.slice LA p.ln p.lc) rs wr) (fun iv _ => p.ln - (intOf iv).toNat)
  case atStart => exact ⟨0, v.ls, rfl, by omega, .start _ _, HLL.out, X0⟩
  case round =>
    clear X0
    obtain ⟨i, ls', rfl, hi, hch, hln, XI⟩ := hrel
    have kX := XI.k
    obtain ⟨l0, l1, l2, l3, l4, l5, l6, lf', lz⟩ := kX.seven
    by_cases hin : i < p.ln
    · have hil : i < v.ls.length := by rw [HLL.out]; exact hin
      have hget := List.getElem?_eq_getElem hil
      have hbo := HSM.out.ls _ (List.getElem_mem hil)
      generalize v.ls[i] = b at *
      have hbi := hch.get hget
      have HBI := Lib.hid hbi
      have HLN := Lib.hid hln
      have HST := Lib.hid (hch.step hget)
      have hb0 := hbo.1
      have hb1 := hbo.2.1
      have hb2 := hbo.2.2.1
      have hos := XI.ol
      rw [hln] at hos
      obtain ⟨yq, rfl⟩ := own_some hos (by omega)
      clear hos
      have haq : (⟨yq, 0, none⟩ : Addr).add (i * 3) = ⟨yq, i * 3, none⟩ := by unfold Addr.add; split <;> simp_all
      have hiw : IntKind.i64.wrap ((i : Int) + 1) = (i : Int) + 1 := IntWalk.i64_in _ (by omega)
      have hbw : IntKind.i64.wrap (b.t0 + 2) = b.t0 + 2 := IntWalk.i64_in _ (by omega)
      obtain ⟨c0, c1, c2, cf⟩ := lot_cells XI.ol hbi
      have HFX := Lib.hid XI.ft.2
      clear hget hln hch hil hbo hbi
      go_wp2_with fail
      clear l0 l1 l2 l3 l4 l5 l6 lf' lz
      refine AnyG.startC (by kernel_rfl) ?_
      refine AnyG.takeP (i := 0) (v := ?_) rfl (by kernel_rfl) (fun _ _ _ h => h) rfl ?_ ?_
      rotate_left
      · (intro w'; go_simp; try with_reducible rfl)
      try simp only [Act.put, List.getElem_toArray, List.getElem_cons_succ, List.getElem_cons_zero, List.setIfInBounds_toArray, List.set_cons_zero, List.set_cons_succ]
      refine AnyG.takeP (i := 2) (v := ?_) rfl (by kernel_rfl) (fun _ _ _ h => h) rfl ?_ ?_
      rotate_left
      · (intro w'; go_simp; try with_reducible rfl)
      try simp only [Act.put, List.getElem_toArray, List.getElem_cons_succ, List.getElem_cons_zero, List.setIfInBounds_toArray, List.set_cons_zero, List.set_cons_succ]
      refine AnyG.takeP (i := 3) (v := ?_) rfl (by kernel_rfl) (fun _ _ _ h => h) rfl ?_ ?_
      rotate_left
      · (intro w'; go_simp; try with_reducible rfl)
      try simp only [Act.put, List.getElem_toArray, List.getElem_cons_succ, List.getElem_cons_zero, List.setIfInBounds_toArray, List.set_cons_zero, List.set_cons_succ]
      refine AnyG.takeP (i := 5) (v := ?_) rfl (by kernel_rfl) (fun _ _ _ h => h) rfl ?_ ?_
      rotate_left
      · (intro w'; go_simp; try with_reducible rfl)
      try simp only [Act.put, List.getElem_toArray, List.getElem_cons_succ, List.getElem_cons_zero, List.setIfInBounds_toArray, List.set_cons_zero, List.set_cons_succ]
      refine AnyG.takeP (i := 10) (v := ?_) rfl (by kernel_rfl) (fun _ _ _ h => h) rfl ?_ ?_
      rotate_left
      · (intro w'; go_simp; try with_reducible rfl)
      try simp only [Act.put, List.getElem_toArray, List.getElem_cons_succ, List.getElem_cons_zero, List.setIfInBounds_toArray, List.set_cons_zero, List.set_cons_succ]
      refine AnyG.takeP (i := 12) (v := ?_) rfl (by kernel_rfl) (fun _ _ _ h => h) rfl ?_ ?_
      rotate_left
      · (intro w'; go_simp; try with_reducible rfl)
      try simp only [Act.put, List.getElem_toArray, List.getElem_cons_succ, List.getElem_cons_zero, List.setIfInBounds_toArray, List.set_cons_zero, List.set_cons_succ]
      refine AnyG.enter (fun w' : World => FT g wr w') (fun i => i != 22) ?_
      have hS : (fun w' : World => FT g wr w') (World.drew _) := (FT.self XI.ft.2).drew
      refine AnyG.takeC (i := 1) (v := ?_) rfl (by kernel_rfl) (fun _ _ _ h => h) rfl ?_ hS ?_
      rotate_left
      · (intro w' hSw; (try dsimp only at hSw); obtain ⟨x0, x1, x2, x3, x4, x5, x6, xf, xz⟩ := (FT.bx hSw kX XI.hqg).seven; go_simp; try with_reducible rfl)
      try simp only [Act.put, List.getElem_toArray, List.getElem_cons_succ, List.getElem_cons_zero, List.setIfInBounds_toArray, List.set_cons_zero, List.set_cons_succ]
      refine AnyG.takeC (i := 4) (v := ?_) rfl (by kernel_rfl) (fun _ _ _ h => h) rfl ?_ hS ?_
      rotate_left
      · (intro w' hSw; (try dsimp only at hSw); obtain ⟨x0, x1, x2, x3, x4, x5, x6, xf, xz⟩ := (FT.bx hSw kX XI.hqg).seven; go_simp; try with_reducible rfl)
      try simp only [Act.put, List.getElem_toArray, List.getElem_cons_succ, List.getElem_cons_zero, List.setIfInBounds_toArray, List.set_cons_zero, List.set_cons_succ]
      refine AnyG.takeC (i := 6) (v := ?_) rfl (by kernel_rfl) (fun _ _ _ h => h) rfl ?_ hS ?_
      rotate_left
      · (intro w' hSw; (try dsimp only at hSw); go_simp; try with_reducible rfl)
      try simp only [Act.put, List.getElem_toArray, List.getElem_cons_succ, List.getElem_cons_zero, List.setIfInBounds_toArray, List.set_cons_zero, List.set_cons_succ]
      refine AnyG.takeC (i := 7) (v := ?_) rfl (by kernel_rfl) (fun _ _ _ h => h) rfl ?_ hS ?_
      rotate_left
      · (intro w' hSw; (try dsimp only at hSw); go_simp; try with_reducible rfl)
      try simp only [Act.put, List.getElem_toArray, List.getElem_cons_succ, List.getElem_cons_zero, List.setIfInBounds_toArray, List.set_cons_zero, List.set_cons_succ]
      refine AnyG.takeC (i := 8) (v := ?_) rfl (by kernel_rfl) (fun _ _ _ h => h) rfl ?_ hS ?_
      rotate_left
      · (intro w' hSw; (try dsimp only at hSw); go_simp; try with_reducible rfl)
      try simp only [Act.put, List.getElem_toArray, List.getElem_cons_succ, List.getElem_cons_zero, List.setIfInBounds_toArray, List.set_cons_zero, List.set_cons_succ]
      refine AnyG.takeC (i := 9) (v := ?_) rfl (by kernel_rfl) (fun _ _ _ h => h) rfl ?_ hS ?_
      rotate_left
      · (intro w' hSw; (try dsimp only at hSw); have pc0 := hSw.cell HFX.out c0 (fun _ e => by cases e); have pc1 := hSw.cell HFX.out c1 (fun _ e => by cases e); go_simp; try with_reducible rfl)
      try simp only [Act.put, List.getElem_toArray, List.getElem_cons_succ, List.getElem_cons_zero, List.setIfInBounds_toArray, List.set_cons_zero, List.set_cons_succ]
      refine AnyG.takeC (i := 11) (v := ?_) rfl (by kernel_rfl) (fun _ _ _ h => h) rfl ?_ hS ?_
      rotate_left
      · (intro w' hSw; (try dsimp only at hSw); obtain ⟨x0, x1, x2, x3, x4, x5, x6, xf, xz⟩ := (FT.bx hSw kX XI.hqg).seven; go_simp; try with_reducible rfl)
      try simp only [Act.put, List.getElem_toArray, List.getElem_cons_succ, List.getElem_cons_zero, List.setIfInBounds_toArray, List.set_cons_zero, List.set_cons_succ]
      refine AnyG.takeC (i := 13) (v := ?_) rfl (by kernel_rfl) (fun _ _ _ h => h) rfl ?_ hS ?_
      rotate_left
      · (intro w' hSw; (try dsimp only at hSw); go_simp; try with_reducible rfl)
      try simp only [Act.put, List.getElem_toArray, List.getElem_cons_succ, List.getElem_cons_zero, List.setIfInBounds_toArray, List.set_cons_zero, List.set_cons_succ]
      refine AnyG.takeC (i := 14) (v := ?_) rfl (by kernel_rfl) (fun _ _ _ h => h) rfl ?_ hS ?_
      rotate_left
      · (intro w' hSw; (try dsimp only at hSw); go_simp; try with_reducible rfl)
      try simp only [Act.put, List.getElem_toArray, List.getElem_cons_succ, List.getElem_cons_zero, List.setIfInBounds_toArray, List.set_cons_zero, List.set_cons_succ]
      refine AnyG.takeC (i := 15) (v := ?_) rfl (by kernel_rfl) (fun _ _ _ h => h) rfl ?_ hS ?_
      rotate_left
      · (intro w' hSw; (try dsimp only at hSw); go_simp; try with_reducible rfl)
      try simp only [Act.put, List.getElem_toArray, List.getElem_cons_succ, List.getElem_cons_zero, List.setIfInBounds_toArray, List.set_cons_zero, List.set_cons_succ]
      refine AnyG.takeC (i := 16) (v := ?_) rfl (by kernel_rfl) (fun _ _ _ h => h) rfl ?_ hS ?_
      rotate_left
      · (intro w' hSw; (try dsimp only at hSw); have pc0 := hSw.cell HFX.out c0 (fun _ e => by cases e); have pc1 := hSw.cell HFX.out c1 (fun _ e => by cases e); go_simp; try with_reducible rfl)
      try simp only [Act.put, List.getElem_toArray, List.getElem_cons_succ, List.getElem_cons_zero, List.setIfInBounds_toArray, List.set_cons_zero, List.set_cons_succ]
      refine AnyG.takeC (i := 17) (v := ?_) rfl (by kernel_rfl) (fun _ _ _ h => h) rfl ?_ hS ?_
      rotate_left
      · (intro w' hSw; (try dsimp only at hSw); go_simp; try with_reducible rfl)
      try simp only [Act.put, List.getElem_toArray, List.getElem_cons_succ, List.getElem_cons_zero, List.setIfInBounds_toArray, List.set_cons_zero, List.set_cons_succ]
      refine AnyG.takeC (i := 18) (v := ?_) rfl (by kernel_rfl) (fun _ _ _ h => h) rfl ?_ hS ?_
      rotate_left
      · (intro w' hSw; (try dsimp only at hSw); go_simp; try with_reducible rfl)
      try simp only [Act.put, List.getElem_toArray, List.getElem_cons_succ, List.getElem_cons_zero, List.setIfInBounds_toArray, List.set_cons_zero, List.set_cons_succ]
      refine AnyG.takeC (i := 19) (v := ?_) rfl (by kernel_rfl) (fun _ _ _ h => h) rfl ?_ hS ?_
      rotate_left
      · (intro w' hSw; (try dsimp only at hSw); go_simp; try with_reducible rfl)
      try simp only [Act.put, List.getElem_toArray, List.getElem_cons_succ, List.getElem_cons_zero, List.setIfInBounds_toArray, List.set_cons_zero, List.set_cons_succ]
      refine AnyG.takeC (i := 20) (v := ?_) rfl (by kernel_rfl) (fun _ _ _ h => h) rfl ?_ hS ?_
      rotate_left
      · (intro w' hSw; (try dsimp only at hSw); go_simp; try with_reducible rfl)
      try simp only [Act.put, List.getElem_toArray, List.getElem_cons_succ, List.getElem_cons_zero, List.setIfInBounds_toArray, List.set_cons_zero, List.set_cons_succ]
      refine AnyG.takeC (i := 21) (v := ?_) rfl (by kernel_rfl) (fun _ _ _ h => h) rfl ?_ hS ?_
      rotate_left
      · (intro w' hSw; (try dsimp only at hSw); go_simp; try with_reducible rfl)
      try simp only [Act.put, List.getElem_toArray, List.getElem_cons_succ, List.getElem_cons_zero, List.setIfInBounds_toArray, List.set_cons_zero, List.set_cons_succ]
      refine AnyG.one (i := 22) (by kernel_rfl) rfl rfl ?_
      have XL := XI.go hS
      have o10 := XL.ol
      have hfr := XL.ol
      rw [HLN.out] at hfr
      replace hfr := own_free hfr
      obtain ⟨p0, p1, p2, pf⟩ := lot_cells o10 HBI.out
      have X1 := XL.lot HLN.out HBI.out (b' := fwC b) 1 (by decide) (if b.t0 + 2 < b.t1 then b.t0 + 2 else b.t1) rfl
      go_simp
      clear p0 p1 p2 hfr pf o10
      refine Onward.last rfl ?_
      try simp only [Act.put, List.getElem_toArray, List.getElem_cons_succ, List.getElem_cons_zero, List.setIfInBounds_toArray, List.set_cons_zero, List.set_cons_succ]
      refine AnyG.done (by kernel_rfl) ?_ _
      go_simp
      obtain ⟨Z, hZ⟩ : ∃ Z, (wr.setCell ⟨yq, i * 3 + 1, none⟩ (.int .i64 (if b.t0 + 2 < b.t1 then b.t0 + 2 else b.t1))).drew = Z := ⟨_, rfl⟩
      have X3 : XV g w1 q v.li v.un v.tr v.le v.hs v.ss (ls'.set i (fwC b)) (.slice p.HA p.hn p.hc) (.slice SA p.sn p.sc) (.slice (some ⟨yq, 0, none⟩) p.ln p.lc) rs Z := by rw [← hZ]; exact X1
      try rw [hZ]
      clear hZ hS X1 XL c0 c1 c2 cf
      go_wp2_with fail
      go_roundw
      case rel => exact ⟨i + 1, _, by go_num, by omega, HST.out, by rw [List.length_set]; exact HLN.out, X3⟩
      case measure => simp [intOf]; omega
    · obtain rfl : i = p.ln := by omega
      have hls2 : ls' = v.ls.map fwC := by rw [← HLL.out] at hch; exact hch.done
      subst hls2
      have HLE := Lib.hid hln
      clear hch hln hi hin kX
      go_wp2_with fail
      clear l0 l1 l2 l3 l4 l5 l6 lf' lz
      go_loopw [5] (fun iv wr => ∃ (i : Nat) (ss' : List Si) (rs' : List (List Value)), iv = .int .i64 i ∧ i ≤ p.sn ∧ Chg fwS v.ss ss' i ∧ ss'.length = p.sn ∧ XV g w1 q v.li v.un v.tr v.le v.hs ss' (v.ls.map fwC) (.slice p.HA p.hn p.hc) (.slice SA p.sn p.sc) (.slice LA p.ln p.lc) rs' wr) (fun iv _ => p.sn - (intOf iv).toNat)
      case atStart => exact ⟨0, v.ss, rs, rfl, by omega, .start _ _, HSS.out, XI⟩
      case round =>
        clear XI
        obtain ⟨i, ss', rs', rfl, hi, hch, hln, XI⟩ := hrel
        have kX := XI.k
        obtain ⟨l0, l1, l2, l3, l4, l5, l6, lf', lz⟩ := kX.seven
        by_cases hin : i < p.sn
        · have hil : i < v.ss.length := by rw [HSS.out]; exact hin
          have hget := List.getElem?_eq_getElem hil
          have hbo := HSM.out.ss _ (List.getElem_mem hil)
          generalize v.ss[i] = b at *
          have hbi := hch.get hget
          have HBI := Lib.hid hbi
          have HLN := Lib.hid hln
          have HCH := Lib.hid hch
          have HGT := Lib.hid hget
          have HBO := Lib.hid hbo
          have hb0 := hbo.1
          have hb1 := hbo.2.1
          have hb2 := hbo.2.2.1
          have hos := XI.os
          rw [hln] at hos
          obtain ⟨yq, rfl⟩ := own_some hos (by omega)
          clear hos
          have haq : (⟨yq, 0, none⟩ : Addr).add (i * 3) = ⟨yq, i * 3, none⟩ := by unfold Addr.add; split <;> simp_all
          have hiw : IntKind.i64.wrap ((i : Int) + 1) = (i : Int) + 1 := IntWalk.i64_in _ (by omega)
          have hbw : IntKind.i64.wrap (b.t0 + 2) = b.t0 + 2 := IntWalk.i64_in _ (by omega)
          obtain ⟨G0, gc0, c0, c1, c2, hHD, oL⟩ := XI.at_ hln hbi
          have hcap := own_capc oL
          obtain ⟨T1, hT1⟩ : ∃ x, (if b.t0 + 2 < b.t1 then b.t0 + 2 else b.t1) = x := ⟨_, rfl⟩
          obtain ⟨gq, rfl⟩ := own_some oL (by omega)
          obtain ⟨gn, hgn⟩ : ∃ n, b.lv.length = n := ⟨_, rfl⟩
          rw [hgn] at c2 hHD hcap
          have hgn1 : 1 ≤ gn := by omega
          have hgn4 : gn ≤ 4 := by omega
          have HGN := Lib.hid hgn
          have HHD := Lib.hid hHD
          obtain ⟨m, hm⟩ : ∃ m : Nat, m = min 2 gn := ⟨_, rfl⟩
          have hmv : (if (gn : Int) < 2 then (gn : Int) else 2) = (m : Int) := by split <;> omega
          have hmn : m ≤ gn := by omega
          have hm1 : 1 ≤ m := by omega
          have hmc : m ≤ gc0 := by omega
          have hm2 : m ≤ 2 := by omega
          have HM := Lib.hid hm
          have HFX := Lib.hid XI.ft.2
          clear hget hln hch hil hbo hbi oL hgn hHD hm
          go_wp2_with fail
          clear l0 l1 l2 l3 l4 l5 l6 lf' lz
          refine AnyG.startC (by kernel_rfl) ?_
          refine AnyG.takeP (i := 0) (v := ?_) rfl (by kernel_rfl) (fun _ _ _ h => h) rfl ?_ ?_
          rotate_left
          · (intro w'; go_simp; try with_reducible rfl)
          try simp only [Act.put, List.getElem_toArray, List.getElem_cons_succ, List.getElem_cons_zero, List.setIfInBounds_toArray, List.set_cons_zero, List.set_cons_succ]
          refine AnyG.takeP (i := 1) (v := ?_) rfl (by kernel_rfl) (fun _ _ _ h => h) rfl ?_ ?_
          rotate_left
          · (intro w'; go_simp; try with_reducible rfl)
          try simp only [Act.put, List.getElem_toArray, List.getElem_cons_succ, List.getElem_cons_zero, List.setIfInBounds_toArray, List.set_cons_zero, List.set_cons_succ]
          refine AnyG.takeP (i := 2) (v := ?_) rfl (by kernel_rfl) (fun _ _ _ h => h) rfl ?_ ?_
          rotate_left
          · (intro w'; go_simp; try with_reducible rfl)
          try simp only [Act.put, List.getElem_toArray, List.getElem_cons_succ, List.getElem_cons_zero, List.setIfInBounds_toArray, List.set_cons_zero, List.set_cons_succ]
          refine AnyG.takeP (i := 3) (v := ?_) rfl (by kernel_rfl) (fun _ _ _ h => h) rfl ?_ ?_
          rotate_left
          · (intro w'; go_simp; try with_reducible rfl)
          try simp only [Act.put, List.getElem_toArray, List.getElem_cons_succ, List.getElem_cons_zero, List.setIfInBounds_toArray, List.set_cons_zero, List.set_cons_succ]
          refine AnyG.takeP (i := 4) (v := ?_) rfl (by kernel_rfl) (fun _ _ _ h => h) rfl ?_ ?_
          rotate_left
          · (intro w'; go_simp; try with_reducible rfl)
          try simp only [Act.put, List.getElem_toArray, List.getElem_cons_succ, List.getElem_cons_zero, List.setIfInBounds_toArray, List.set_cons_zero, List.set_cons_succ]
          refine AnyG.takeP (i := 5) (v := ?_) rfl (by kernel_rfl) (fun _ _ _ h => h) rfl ?_ ?_
          rotate_left
          · (intro w'; go_simp; try with_reducible rfl)
          try simp only [Act.put, List.getElem_toArray, List.getElem_cons_succ, List.getElem_cons_zero, List.setIfInBounds_toArray, List.set_cons_zero, List.set_cons_succ]
          refine AnyG.takeP (i := 7) (v := ?_) rfl (by kernel_rfl) (fun _ _ _ h => h) rfl ?_ ?_
          rotate_left
          · (intro w'; go_simp; try with_reducible rfl)
          try simp only [Act.put, List.getElem_toArray, List.getElem_cons_succ, List.getElem_cons_zero, List.setIfInBounds_toArray, List.set_cons_zero, List.set_cons_succ]
          refine AnyG.takeP (i := 8) (v := ?_) rfl (by kernel_rfl) (fun _ _ _ h => h) rfl ?_ ?_
          rotate_left
          · (intro w'; go_simp; try with_reducible rfl)
          try simp only [Act.put, List.getElem_toArray, List.getElem_cons_succ, List.getElem_cons_zero, List.setIfInBounds_toArray, List.set_cons_zero, List.set_cons_succ]
          refine AnyG.takeP (i := 9) (v := ?_) rfl (by kernel_rfl) (fun _ _ _ h => h) rfl ?_ ?_
          rotate_left
          · (intro w'; go_simp; try with_reducible rfl)
          try simp only [Act.put, List.getElem_toArray, List.getElem_cons_succ, List.getElem_cons_zero, List.setIfInBounds_toArray, List.set_cons_zero, List.set_cons_succ]
          refine AnyG.takeP (i := 10) (v := ?_) rfl (by kernel_rfl) (fun _ _ _ h => h) rfl ?_ ?_
          rotate_left
          · (intro w'; go_simp; try with_reducible rfl)
          try simp only [Act.put, List.getElem_toArray, List.getElem_cons_succ, List.getElem_cons_zero, List.setIfInBounds_toArray, List.set_cons_zero, List.set_cons_succ]
          refine AnyG.takeP (i := 14) (v := ?_) rfl (by kernel_rfl) (fun _ _ _ h => h) rfl ?_ ?_
          rotate_left
          · (intro w'; go_simp; try with_reducible rfl)
          try simp only [Act.put, List.getElem_toArray, List.getElem_cons_succ, List.getElem_cons_zero, List.setIfInBounds_toArray, List.set_cons_zero, List.set_cons_succ]
          refine AnyG.takeP (i := 15) (v := ?_) rfl (by kernel_rfl) (fun _ _ _ h => h) rfl ?_ ?_
          rotate_left
          · (intro w'; go_simp; try with_reducible rfl)
          try simp only [Act.put, List.getElem_toArray, List.getElem_cons_succ, List.getElem_cons_zero, List.setIfInBounds_toArray, List.set_cons_zero, List.set_cons_succ]
          refine AnyG.takeP (i := 16) (v := ?_) rfl (by kernel_rfl) (fun _ _ _ h => h) rfl ?_ ?_
          rotate_left
          · (intro w'; go_simp; try with_reducible rfl)
          try simp only [Act.put, List.getElem_toArray, List.getElem_cons_succ, List.getElem_cons_zero, List.setIfInBounds_toArray, List.set_cons_zero, List.set_cons_succ]
          refine AnyG.takeP (i := 18) (v := ?_) rfl (by kernel_rfl) (fun _ _ _ h => h) rfl ?_ ?_
          rotate_left
          · (intro w'; go_simp; try with_reducible rfl)
          try simp only [Act.put, List.getElem_toArray, List.getElem_cons_succ, List.getElem_cons_zero, List.setIfInBounds_toArray, List.set_cons_zero, List.set_cons_succ]
          refine AnyG.takeP (i := 19) (v := ?_) rfl (by kernel_rfl) (fun _ _ _ h => h) rfl ?_ ?_
          rotate_left
          · (intro w'; go_simp; try with_reducible rfl)
          try simp only [Act.put, List.getElem_toArray, List.getElem_cons_succ, List.getElem_cons_zero, List.setIfInBounds_toArray, List.set_cons_zero, List.set_cons_succ]
          refine AnyG.takeP (i := 20) (v := ?_) rfl (by kernel_rfl) (fun _ _ _ h => h) rfl ?_ ?_
          rotate_left
          · (intro w'; go_simp; try with_reducible rfl)
          try simp only [Act.put, List.getElem_toArray, List.getElem_cons_succ, List.getElem_cons_zero, List.setIfInBounds_toArray, List.set_cons_zero, List.set_cons_succ]
          refine AnyG.enter (fun w' : World => w'.cell? ⟨yq, i * 3, none⟩ = some (.int .i64 b.t0) ∧ w'.cell? ⟨yq, i * 3 + 2, none⟩ = some (.slice (some ⟨gq, 0, none⟩) gn gc0)) (fun i => i != 31) ?_
          have hS : (fun w' : World => w'.cell? ⟨yq, i * 3, none⟩ = some (.int .i64 b.t0) ∧ w'.cell? ⟨yq, i * 3 + 2, none⟩ = some (.slice (some ⟨gq, 0, none⟩) gn gc0)) (World.drew _) := ⟨c0, c2⟩
          refine AnyG.takeC (i := 11) (v := ?_) rfl (by kernel_rfl) (fun _ _ _ h => h) rfl ?_ hS ?_
          rotate_left
          · (intro w' hSw; (try dsimp only at hSw); have p0 := hSw.1; go_simp; try with_reducible rfl)
          try simp only [Act.put, List.getElem_toArray, List.getElem_cons_succ, List.getElem_cons_zero, List.setIfInBounds_toArray, List.set_cons_zero, List.set_cons_succ]
          refine AnyG.takeC (i := 12) (v := ?_) rfl (by kernel_rfl) (fun _ _ _ h => h) rfl ?_ hS ?_
          rotate_left
          · (intro w' hSw; (try dsimp only at hSw); go_simp; try with_reducible rfl)
          try simp only [Act.put, List.getElem_toArray, List.getElem_cons_succ, List.getElem_cons_zero, List.setIfInBounds_toArray, List.set_cons_zero, List.set_cons_succ]
          refine AnyG.takeC (i := 17) (v := ?_) rfl (by kernel_rfl) (fun _ _ _ h => h) rfl ?_ hS ?_
          rotate_left
          · (intro w' hSw; (try dsimp only at hSw); have p2 := hSw.2; go_simp; try with_reducible rfl)
          try simp only [Act.put, List.getElem_toArray, List.getElem_cons_succ, List.getElem_cons_zero, List.setIfInBounds_toArray, List.set_cons_zero, List.set_cons_succ]
          refine AnyG.takeC (i := 21) (v := ?_) rfl (by kernel_rfl) (fun _ _ _ h => h) rfl ?_ hS ?_
          rotate_left
          · (intro w' hSw; (try dsimp only at hSw); have p2 := hSw.2; go_simp; try with_reducible rfl)
          try simp only [Act.put, List.getElem_toArray, List.getElem_cons_succ, List.getElem_cons_zero, List.setIfInBounds_toArray, List.set_cons_zero, List.set_cons_succ]
          refine AnyG.takeC (i := 22) (v := ?_) rfl (by kernel_rfl) (fun _ _ _ h => h) rfl ?_ hS ?_
          rotate_left
          · (intro w' hSw; (try dsimp only at hSw); go_simp; try with_reducible rfl)
          try simp only [Act.put, List.getElem_toArray, List.getElem_cons_succ, List.getElem_cons_zero, List.setIfInBounds_toArray, List.set_cons_zero, List.set_cons_succ]
          refine AnyG.takeC (i := 23) (v := ?_) rfl (by kernel_rfl) (fun _ _ _ h => h) rfl ?_ hS ?_
          rotate_left
          · (intro w' hSw; (try dsimp only at hSw); go_simp; try with_reducible rfl)
          try simp only [Act.put, List.getElem_toArray, List.getElem_cons_succ, List.getElem_cons_zero, List.setIfInBounds_toArray, List.set_cons_zero, List.set_cons_succ]
          refine AnyG.takeC (i := 24) (v := ?_) rfl (by kernel_rfl) (fun _ _ _ h => h) rfl ?_ hS ?_
          rotate_left
          · (intro w' hSw; (try dsimp only at hSw); go_simp; try with_reducible rfl)
          try simp only [Act.put, List.getElem_toArray, List.getElem_cons_succ, List.getElem_cons_zero, List.setIfInBounds_toArray, List.set_cons_zero, List.set_cons_succ]
          refine AnyG.one (i := 6) (by kernel_rfl) rfl rfl ?_
          have c1d := (FT.self XI.ft.2).drew.cell HFX.out c1 (fun _ e => by cases e)
          go_simp
          refine Onward.on hS (fun hS2 => ?_)
          clear hS
          have hS := hS2
          clear hS2
          try simp only [Act.put, List.getElem_toArray, List.getElem_cons_succ, List.getElem_cons_zero, List.setIfInBounds_toArray, List.set_cons_zero, List.set_cons_succ]
          refine AnyG.takeC (i := 13) (v := ?_) rfl (by kernel_rfl) (fun _ _ _ h => h) rfl ?_ hS ?_
          rotate_left
          · (intro w' hSw; (try dsimp only at hSw); go_simp; try with_reducible rfl)
          try simp only [Act.put, List.getElem_toArray, List.getElem_cons_succ, List.getElem_cons_zero, List.setIfInBounds_toArray, List.set_cons_zero, List.set_cons_succ]
          refine AnyG.takeC (i := 25) (v := ?_) rfl (by kernel_rfl) (fun _ _ _ h => h) rfl ?_ hS ?_
          rotate_left
          · (intro w' hSw; (try dsimp only at hSw); go_simp; try with_reducible rfl)
          try simp only [Act.put, List.getElem_toArray, List.getElem_cons_succ, List.getElem_cons_zero, List.setIfInBounds_toArray, List.set_cons_zero, List.set_cons_succ]
          refine AnyG.takeC (i := 26) (v := ?_) rfl (by kernel_rfl) (fun _ _ _ h => h) rfl ?_ hS ?_
          rotate_left
          · (intro w' hSw; (try dsimp only at hSw); go_simp; try with_reducible rfl)
          try simp only [Act.put, List.getElem_toArray, List.getElem_cons_succ, List.getElem_cons_zero, List.setIfInBounds_toArray, List.set_cons_zero, List.set_cons_succ]
          refine AnyG.takeC (i := 27) (v := ?_) rfl (by kernel_rfl) (fun _ _ _ h => h) rfl ?_ hS ?_
          rotate_left
          · (intro w' hSw; (try dsimp only at hSw); go_simp; try with_reducible rfl)
          try simp only [Act.put, List.getElem_toArray, List.getElem_cons_succ, List.getElem_cons_zero, List.setIfInBounds_toArray, List.set_cons_zero, List.set_cons_succ]
          refine AnyG.one (i := 28) (by kernel_rfl) rfl rfl ?_
          have XL := XI.go (FT.self XI.ft.2).drew
          obtain ⟨G9, gc9, p0, p1, p2, hH9, o9⟩ := XL.at_ HLN.out HBI.out
          have hos2 := XL.os
          rw [HLN.out] at hos2
          have hfr := own_free hos2
          obtain ⟨rs1, X21, hH1⟩ := XL.cell HLN.out HBI.out (b' := ⟨b.t0, T1, b.lv⟩) 1 (by decide) T1 rfl (fun A C => rfl)
          go_simp
          clear p0 p1 p2 hfr hos2 o9 hH9
          refine Onward.on ⟨(World.cell?_setCell_other _ _ _ _ (by simp)).trans hS.1, (World.cell?_setCell_other _ _ _ _ (by simp)).trans hS.2⟩ (fun hS2 => ?_)
          clear hS
          have hS := hS2
          clear hS2
          try simp only [Act.put, List.getElem_toArray, List.getElem_cons_succ, List.getElem_cons_zero, List.setIfInBounds_toArray, List.set_cons_zero, List.set_cons_succ]
          refine AnyG.takeC (i := 29) (v := ?_) rfl (by kernel_rfl) (fun _ _ _ h => h) rfl ?_ hS ?_
          rotate_left
          · (intro w' hSw; (try dsimp only at hSw); go_simp; try with_reducible rfl)
          try simp only [Act.put, List.getElem_toArray, List.getElem_cons_succ, List.getElem_cons_zero, List.setIfInBounds_toArray, List.set_cons_zero, List.set_cons_succ]
          refine AnyG.takeC (i := 30) (v := ?_) rfl (by kernel_rfl) (fun _ _ _ h => h) rfl ?_ hS ?_
          rotate_left
          · (intro w' hSw; (try dsimp only at hSw); go_simp; try with_reducible rfl)
          try simp only [Act.put, List.getElem_toArray, List.getElem_cons_succ, List.getElem_cons_zero, List.setIfInBounds_toArray, List.set_cons_zero, List.set_cons_succ]
          refine AnyG.one (i := 31) (by kernel_rfl) rfl rfl ?_
          obtain ⟨rs2, X22, hH2⟩ := X21.cutl (by rw [List.length_set]; exact HLN.out) (i := i) (m := m) (b := ⟨b.t0, T1, b.lv⟩) (by rw [List.getElem?_set_self (by rw [HLN.out]; exact hin)]) (by dsimp only; rw [HGN.out]; exact hH1 i _ HHD.out) (by dsimp only; rw [HGN.out]; exact hmn)
          have hos3 := XI.os
          rw [HLN.out] at hos3
          have hfr := own_free hos3
          obtain ⟨G8, gc8, r0, r1, r2, hH8, o8⟩ := XI.at_ HLN.out HBI.out
          go_simp
          clear r0 r1 r2 hH8 o8
          rw [List.set_set] at X22
          clear hos3 hfr
          refine Onward.last rfl ?_
          try simp only [Act.put, List.getElem_toArray, List.getElem_cons_succ, List.getElem_cons_zero, List.setIfInBounds_toArray, List.set_cons_zero, List.set_cons_succ]
          refine AnyG.done (by kernel_rfl) ?_ _
          go_simp
          have HT1 := Lib.hid hT1
          clear hT1 hmv
          obtain ⟨Z, hZ⟩ : ∃ Z, ((wr.setCell ⟨yq, i * 3 + 1, none⟩ (.int .i64 T1)).setCell ⟨yq, i * 3 + 2, none⟩ (.slice (some ⟨gq, 0, none⟩) m gc0)).drew = Z := ⟨_, rfl⟩
          have X3 : XV g w1 q v.li v.un v.tr v.le v.hs (ss'.set i ⟨b.t0, T1, b.lv.take m⟩) (v.ls.map fwC) (.slice p.HA p.hn p.hc) (.slice (some ⟨yq, 0, none⟩) p.sn p.sc) (.slice LA p.ln p.lc) rs2 Z := by rw [← hZ]; exact X22
          try rw [hZ]
          have htk : (b.lv.take m).length = m := by rw [List.length_take, HGN.out]; omega
          have HTK := Lib.hid htk
          obtain ⟨LV0, hLV0⟩ : ∃ x, b.lv.take m = x := ⟨_, rfl⟩
          rw [hLV0] at X3
          have HLV0 := Lib.hid hLV0
          have htk2 : LV0.length = m := by rw [← hLV0]; exact htk
          have HTK2 := Lib.hid htk2
          have hlo : ∀ l ∈ LV0, 0 ≤ l.d0 ∧ l.d0 ≤ l.d1 ∧ l.d1 ≤ 12 + 2 * 4 := fun l hl => by
            rw [← hLV0] at hl
            have := HBO.out.2.2.2.2.2.ok l (List.mem_of_mem_take hl)
            exact ⟨this.2.2.1, this.2.2.2.1, this.2.2.2.2⟩
          have HLO := Lib.hid hlo
          clear hZ hS X21 X22 XL c0 c1 c2 kX HFX XI htk hLV0 htk2 hlo
          go_wp2_with fail
          go_loopw [7] (fun kv wr => ∃ (k : Nat) (lv1 : List Lv), kv = .int .i64 k ∧ k ≤ m ∧ Chg fwV LV0 lv1 k ∧ lv1.length = m ∧ XV g w1 q v.li v.un v.tr v.le v.hs (ss'.set i ⟨b.t0, T1, lv1⟩) (v.ls.map fwC) (.slice p.HA p.hn p.hc) (.slice (some ⟨yq, 0, none⟩) p.sn p.sc) (.slice LA p.ln p.lc) rs2 wr) (fun kv _ => m - (intOf kv).toNat)
          case atStart => exact ⟨0, LV0, rfl, by omega, .start _ _, HTK2.out, X3⟩
          case round =>
            clear X3
            obtain ⟨k, lv1, rfl, hk, hcv, hlb, X⟩ := hrel
            have HB1 := Lib.hid (show (ss'.set i ⟨b.t0, T1, lv1⟩)[i]? = some ⟨b.t0, T1, lv1⟩ from List.getElem?_set_self (by rw [HLN.out]; exact hin))
            obtain ⟨G, gc, p0, p1, p2, hH, oG⟩ := X.at_ (by rw [List.length_set]; exact HLN.out) HB1.out
            dsimp only at p0 p1 p2 hH oG
            have HFX := Lib.hid X.ft.2
            have hfree : ∀ o, wr.frozen? ⟨yq, o, none⟩ = false := by
              have o := X.os
              rw [List.length_set, HLN.out] at o
              exact own_free o
            by_cases hkn : k < m
            · have hkb : k < LV0.length := by rw [HTK2.out]; exact hkn
              have hl0 := List.getElem?_eq_getElem hkb
              have hlo := HLO.out _ (List.getElem_mem hkb)
              generalize LV0[k] = l at *
              have hl1 := hcv.get hl0
              obtain ⟨gq2, rfl⟩ := own_some oG (by rw [hlb]; omega)
              have HL1 := Lib.hid hl1
              have HCV := Lib.hid (hcv.step hl0)
              have HLB := Lib.hid hlb
              obtain ⟨e0, e1, e2, ef⟩ := lvl_cells oG hl1
              rw [hlb] at p2
              have haq2 : (⟨gq2, 0, none⟩ : Addr).add (k * 3) = ⟨gq2, k * 3, none⟩ := by unfold Addr.add; split <;> simp_all
              have hkw : IntKind.i64.wrap ((k : Int) + 1) = (k : Int) + 1 := IntWalk.i64_in _ (by omega)
              have hdw : IntKind.i64.wrap (l.d0 + 1) = l.d0 + 1 := IntWalk.i64_in _ (by omega)
              clear hl1 hl0 hcv hlb hkb
              go_wp2_with fail
              refine AnyG.startC (by kernel_rfl) ?_
              refine AnyG.takeP (i := 0) (v := ?_) rfl (by kernel_rfl) (fun _ _ _ h => h) rfl ?_ ?_
              rotate_left
              · (intro w'; go_simp; try with_reducible rfl)
              try simp only [Act.put, List.getElem_toArray, List.getElem_cons_succ, List.getElem_cons_zero, List.setIfInBounds_toArray, List.set_cons_zero, List.set_cons_succ]
              refine AnyG.takeP (i := 1) (v := ?_) rfl (by kernel_rfl) (fun _ _ _ h => h) rfl ?_ ?_
              rotate_left
              · (intro w'; go_simp; try with_reducible rfl)
              try simp only [Act.put, List.getElem_toArray, List.getElem_cons_succ, List.getElem_cons_zero, List.setIfInBounds_toArray, List.set_cons_zero, List.set_cons_succ]
              refine AnyG.takeP (i := 2) (v := ?_) rfl (by kernel_rfl) (fun _ _ _ h => h) rfl ?_ ?_
              rotate_left
              · (intro w'; go_simp; try with_reducible rfl)
              try simp only [Act.put, List.getElem_toArray, List.getElem_cons_succ, List.getElem_cons_zero, List.setIfInBounds_toArray, List.set_cons_zero, List.set_cons_succ]
              refine AnyG.takeP (i := 4) (v := ?_) rfl (by kernel_rfl) (fun _ _ _ h => h) rfl ?_ ?_
              rotate_left
              · (intro w'; go_simp; try with_reducible rfl)
              try simp only [Act.put, List.getElem_toArray, List.getElem_cons_succ, List.getElem_cons_zero, List.setIfInBounds_toArray, List.set_cons_zero, List.set_cons_succ]
              refine AnyG.takeP (i := 5) (v := ?_) rfl (by kernel_rfl) (fun _ _ _ h => h) rfl ?_ ?_
              rotate_left
              · (intro w'; go_simp; try with_reducible rfl)
              try simp only [Act.put, List.getElem_toArray, List.getElem_cons_succ, List.getElem_cons_zero, List.setIfInBounds_toArray, List.set_cons_zero, List.set_cons_succ]
              refine AnyG.takeP (i := 6) (v := ?_) rfl (by kernel_rfl) (fun _ _ _ h => h) rfl ?_ ?_
              rotate_left
              · (intro w'; go_simp; try with_reducible rfl)
              try simp only [Act.put, List.getElem_toArray, List.getElem_cons_succ, List.getElem_cons_zero, List.setIfInBounds_toArray, List.set_cons_zero, List.set_cons_succ]
              refine AnyG.takeP (i := 7) (v := ?_) rfl (by kernel_rfl) (fun _ _ _ h => h) rfl ?_ ?_
              rotate_left
              · (intro w'; go_simp; try with_reducible rfl)
              try simp only [Act.put, List.getElem_toArray, List.getElem_cons_succ, List.getElem_cons_zero, List.setIfInBounds_toArray, List.set_cons_zero, List.set_cons_succ]
              refine AnyG.takeP (i := 9) (v := ?_) rfl (by kernel_rfl) (fun _ _ _ h => h) rfl ?_ ?_
              rotate_left
              · (intro w'; go_simp; try with_reducible rfl)
              try simp only [Act.put, List.getElem_toArray, List.getElem_cons_succ, List.getElem_cons_zero, List.setIfInBounds_toArray, List.set_cons_zero, List.set_cons_succ]
              refine AnyG.takeP (i := 14) (v := ?_) rfl (by kernel_rfl) (fun _ _ _ h => h) rfl ?_ ?_
              rotate_left
              · (intro w'; go_simp; try with_reducible rfl)
              try simp only [Act.put, List.getElem_toArray, List.getElem_cons_succ, List.getElem_cons_zero, List.setIfInBounds_toArray, List.set_cons_zero, List.set_cons_succ]
              refine AnyG.takeP (i := 15) (v := ?_) rfl (by kernel_rfl) (fun _ _ _ h => h) rfl ?_ ?_
              rotate_left
              · (intro w'; go_simp; try with_reducible rfl)
              try simp only [Act.put, List.getElem_toArray, List.getElem_cons_succ, List.getElem_cons_zero, List.setIfInBounds_toArray, List.set_cons_zero, List.set_cons_succ]
              refine AnyG.takeP (i := 16) (v := ?_) rfl (by kernel_rfl) (fun _ _ _ h => h) rfl ?_ ?_
              rotate_left
              · (intro w'; go_simp; try with_reducible rfl)
              try simp only [Act.put, List.getElem_toArray, List.getElem_cons_succ, List.getElem_cons_zero, List.setIfInBounds_toArray, List.set_cons_zero, List.set_cons_succ]
              refine AnyG.takeP (i := 18) (v := ?_) rfl (by kernel_rfl) (fun _ _ _ h => h) rfl ?_ ?_
              rotate_left
              · (intro w'; go_simp; try with_reducible rfl)
              try simp only [Act.put, List.getElem_toArray, List.getElem_cons_succ, List.getElem_cons_zero, List.setIfInBounds_toArray, List.set_cons_zero, List.set_cons_succ]
              refine AnyG.enter (fun w' : World => FT g wr w') (fun i => i != 28) ?_
              have hS : (fun w' : World => FT g wr w') (World.drew _) := (FT.self X.ft.2).drew
              refine AnyG.takeC (i := 3) (v := ?_) rfl (by kernel_rfl) (fun _ _ _ h => h) rfl ?_ hS ?_
              rotate_left
              · (intro w' hSw; (try dsimp only at hSw); have pp2 := hSw.cell HFX.out p2 (fun _ e => by cases e); go_simp; try with_reducible rfl)
              try simp only [Act.put, List.getElem_toArray, List.getElem_cons_succ, List.getElem_cons_zero, List.setIfInBounds_toArray, List.set_cons_zero, List.set_cons_succ]
              refine AnyG.takeC (i := 8) (v := ?_) rfl (by kernel_rfl) (fun _ _ _ h => h) rfl ?_ hS ?_
              rotate_left
              · (intro w' hSw; (try dsimp only at hSw); have pp2 := hSw.cell HFX.out p2 (fun _ e => by cases e); go_simp; try with_reducible rfl)
              try simp only [Act.put, List.getElem_toArray, List.getElem_cons_succ, List.getElem_cons_zero, List.setIfInBounds_toArray, List.set_cons_zero, List.set_cons_succ]
              refine AnyG.takeC (i := 10) (v := ?_) rfl (by kernel_rfl) (fun _ _ _ h => h) rfl ?_ hS ?_
              rotate_left
              · (intro w' hSw; (try dsimp only at hSw); go_simp; try with_reducible rfl)
              try simp only [Act.put, List.getElem_toArray, List.getElem_cons_succ, List.getElem_cons_zero, List.setIfInBounds_toArray, List.set_cons_zero, List.set_cons_succ]
              refine AnyG.takeC (i := 11) (v := ?_) rfl (by kernel_rfl) (fun _ _ _ h => h) rfl ?_ hS ?_
              rotate_left
              · (intro w' hSw; (try dsimp only at hSw); go_simp; try with_reducible rfl)
              try simp only [Act.put, List.getElem_toArray, List.getElem_cons_succ, List.getElem_cons_zero, List.setIfInBounds_toArray, List.set_cons_zero, List.set_cons_succ]
              refine AnyG.takeC (i := 12) (v := ?_) rfl (by kernel_rfl) (fun _ _ _ h => h) rfl ?_ hS ?_
              rotate_left
              · (intro w' hSw; (try dsimp only at hSw); go_simp; try with_reducible rfl)
              try simp only [Act.put, List.getElem_toArray, List.getElem_cons_succ, List.getElem_cons_zero, List.setIfInBounds_toArray, List.set_cons_zero, List.set_cons_succ]
              refine AnyG.takeC (i := 13) (v := ?_) rfl (by kernel_rfl) (fun _ _ _ h => h) rfl ?_ hS ?_
              rotate_left
              · (intro w' hSw; (try dsimp only at hSw); have pe1 := hSw.cell HFX.out e1 (fun _ e => by cases e); have pe2 := hSw.cell HFX.out e2 (fun _ e => by cases e); go_simp; try with_reducible rfl)
              try simp only [Act.put, List.getElem_toArray, List.getElem_cons_succ, List.getElem_cons_zero, List.setIfInBounds_toArray, List.set_cons_zero, List.set_cons_succ]
              refine AnyG.takeC (i := 17) (v := ?_) rfl (by kernel_rfl) (fun _ _ _ h => h) rfl ?_ hS ?_
              rotate_left
              · (intro w' hSw; (try dsimp only at hSw); have pp2 := hSw.cell HFX.out p2 (fun _ e => by cases e); go_simp; try with_reducible rfl)
              try simp only [Act.put, List.getElem_toArray, List.getElem_cons_succ, List.getElem_cons_zero, List.setIfInBounds_toArray, List.set_cons_zero, List.set_cons_succ]
              refine AnyG.takeC (i := 19) (v := ?_) rfl (by kernel_rfl) (fun _ _ _ h => h) rfl ?_ hS ?_
              rotate_left
              · (intro w' hSw; (try dsimp only at hSw); go_simp; try with_reducible rfl)
              try simp only [Act.put, List.getElem_toArray, List.getElem_cons_succ, List.getElem_cons_zero, List.setIfInBounds_toArray, List.set_cons_zero, List.set_cons_succ]
              refine AnyG.takeC (i := 20) (v := ?_) rfl (by kernel_rfl) (fun _ _ _ h => h) rfl ?_ hS ?_
              rotate_left
              · (intro w' hSw; (try dsimp only at hSw); go_simp; try with_reducible rfl)
              try simp only [Act.put, List.getElem_toArray, List.getElem_cons_succ, List.getElem_cons_zero, List.setIfInBounds_toArray, List.set_cons_zero, List.set_cons_succ]
              refine AnyG.takeC (i := 21) (v := ?_) rfl (by kernel_rfl) (fun _ _ _ h => h) rfl ?_ hS ?_
              rotate_left
              · (intro w' hSw; (try dsimp only at hSw); go_simp; try with_reducible rfl)
              try simp only [Act.put, List.getElem_toArray, List.getElem_cons_succ, List.getElem_cons_zero, List.setIfInBounds_toArray, List.set_cons_zero, List.set_cons_succ]
              refine AnyG.takeC (i := 22) (v := ?_) rfl (by kernel_rfl) (fun _ _ _ h => h) rfl ?_ hS ?_
              rotate_left
              · (intro w' hSw; (try dsimp only at hSw); have pe1 := hSw.cell HFX.out e1 (fun _ e => by cases e); have pe2 := hSw.cell HFX.out e2 (fun _ e => by cases e); go_simp; try with_reducible rfl)
              try simp only [Act.put, List.getElem_toArray, List.getElem_cons_succ, List.getElem_cons_zero, List.setIfInBounds_toArray, List.set_cons_zero, List.set_cons_succ]
              refine AnyG.takeC (i := 23) (v := ?_) rfl (by kernel_rfl) (fun _ _ _ h => h) rfl ?_ hS ?_
              rotate_left
              · (intro w' hSw; (try dsimp only at hSw); go_simp; try with_reducible rfl)
              try simp only [Act.put, List.getElem_toArray, List.getElem_cons_succ, List.getElem_cons_zero, List.setIfInBounds_toArray, List.set_cons_zero, List.set_cons_succ]
              refine AnyG.takeC (i := 24) (v := ?_) rfl (by kernel_rfl) (fun _ _ _ h => h) rfl ?_ hS ?_
              rotate_left
              · (intro w' hSw; (try dsimp only at hSw); go_simp; try with_reducible rfl)
              try simp only [Act.put, List.getElem_toArray, List.getElem_cons_succ, List.getElem_cons_zero, List.setIfInBounds_toArray, List.set_cons_zero, List.set_cons_succ]
              refine AnyG.takeC (i := 25) (v := ?_) rfl (by kernel_rfl) (fun _ _ _ h => h) rfl ?_ hS ?_
              rotate_left
              · (intro w' hSw; (try dsimp only at hSw); go_simp; try with_reducible rfl)
              try simp only [Act.put, List.getElem_toArray, List.getElem_cons_succ, List.getElem_cons_zero, List.setIfInBounds_toArray, List.set_cons_zero, List.set_cons_succ]
              refine AnyG.takeC (i := 26) (v := ?_) rfl (by kernel_rfl) (fun _ _ _ h => h) rfl ?_ hS ?_
              rotate_left
              · (intro w' hSw; (try dsimp only at hSw); go_simp; try with_reducible rfl)
              try simp only [Act.put, List.getElem_toArray, List.getElem_cons_succ, List.getElem_cons_zero, List.setIfInBounds_toArray, List.set_cons_zero, List.set_cons_succ]
              refine AnyG.takeC (i := 27) (v := ?_) rfl (by kernel_rfl) (fun _ _ _ h => h) rfl ?_ hS ?_
              rotate_left
              · (intro w' hSw; (try dsimp only at hSw); go_simp; try with_reducible rfl)
              try simp only [Act.put, List.getElem_toArray, List.getElem_cons_succ, List.getElem_cons_zero, List.setIfInBounds_toArray, List.set_cons_zero, List.set_cons_succ]
              refine AnyG.one (i := 28) (by kernel_rfl) rfl rfl ?_
              have XA := X.go hS
              have o18 := hS.row HFX.out oG (by decide)
              obtain ⟨f0, f1, f2, ff⟩ := lvl_cells o18 HL1.out
              have X17 := XA.dep hH HB1.out HL1.out (l' := fwV l) 2 (by decide) (if l.d0 + 1 < l.d1 then l.d0 + 1 else l.d1) rfl
              go_simp
              rw [List.set_set] at X17
              clear f0 f1 f2 ff o18
              refine Onward.last rfl ?_
              try simp only [Act.put, List.getElem_toArray, List.getElem_cons_succ, List.getElem_cons_zero, List.setIfInBounds_toArray, List.set_cons_zero, List.set_cons_succ]
              refine AnyG.done (by kernel_rfl) ?_ _
              go_simp
              obtain ⟨Z2, hZ2⟩ : ∃ Z, (wr.setCell ⟨gq2, k * 3 + 2, none⟩ (.int .i64 (if l.d0 + 1 < l.d1 then l.d0 + 1 else l.d1))).drew = Z := ⟨_, rfl⟩
              have X4 : XV g w1 q v.li v.un v.tr v.le v.hs (ss'.set i ⟨b.t0, T1, lv1.set k (fwV l)⟩) (v.ls.map fwC) (.slice p.HA p.hn p.hc) (.slice (some ⟨yq, 0, none⟩) p.sn p.sc) (.slice LA p.ln p.lc) rs2 Z2 := by rw [← hZ2]; exact X17
              try rw [hZ2]
              clear hZ2 hS X17 XA p0 p1 p2 e0 e1 e2 ef oG hfree
              go_wp2_with fail
              go_roundw
              case rel => exact ⟨k + 1, _, by go_num, by omega, HCV.out, by rw [List.length_set]; exact HLB.out, X4⟩
              case measure => simp [intOf]; omega
            · obtain rfl : k = m := by omega
              have hcd : lv1 = LV0.map fwV := by rw [← HTK2.out] at hcv; exact hcv.done
              have HX := Lib.hid (show Chg fwS v.ss (ss'.set i ⟨b.t0, T1, lv1⟩) (i + 1) by
                have := HCH.out.step HGT.out
                have e : fwS b = ⟨b.t0, T1, lv1⟩ := by
                  unfold fwS
                  rw [HT1.out, hcd, ← HLV0.out, HM.out]
                  congr 2
                  rw [← HGN.out]
                  rcases Nat.le_total b.lv.length 2 with h2 | h2
                  · rw [Nat.min_eq_right h2, List.take_of_length_le h2, List.take_length]
                  · rw [Nat.min_eq_left h2]
                rw [e] at this
                exact this)
              rw [hlb] at p2
              clear hcd hcv hlb p0 p1
              go_wp2_with fail
              go_roundw
              case rel => exact ⟨i + 1, _, rs2, by go_num, by omega, HX.out, by rw [List.length_set]; exact HLN.out, X⟩
              case measure => simp [intOf]; omega
        · obtain rfl : i = p.sn := by omega
          have hss2 : ss' = v.ss.map fwS := by rw [← HSS.out] at hch; exact hch.done
          subst hss2
          have K0 := XI.ft.bx kz hgz
          have HX := Lib.hid XI
          have HK0 := Lib.hid K0
          have HLNS := Lib.hid hln
          clear hch hln hi hin XI
          obtain ⟨r0, r1, r2, r3, r4, r5, r6, rf, rz⟩ := K0.seven
          go_wp2_with fail
          have fA := (((((((K0).set_ 0 (.int .i64 v.li)).set_ 1 (.int .i64 v.un)).set_ 2 (.int .i64 v.tr)).set_ 3 (.slice p.HA p.hn p.hc)).set_ 4 (.int .i64 v.le)).set_ 5 (.slice SA p.sn p.sc)).set_ 6 (.slice LA p.ln p.lc)
          simp only [List.setIfInBounds_toArray, List.set_cons_zero, List.set_cons_succ] at fA
          have fG : wr.grownBy _ (some w.heap.size) := grownF_trans (grownF_trans (grownF_trans (grownF_trans (grownF_trans (grownF_trans (grownF_trans (grown_refl wr _) (grown_set (wr) w.heap.size 0 (.int .i64 v.li))) (grown_set ((wr).setCell ⟨w.heap.size, 0, none⟩ (.int .i64 v.li)) w.heap.size 1 (.int .i64 v.un))) (grown_set (((wr).setCell ⟨w.heap.size, 0, none⟩ (.int .i64 v.li)).setCell ⟨w.heap.size, 1, none⟩ (.int .i64 v.un)) w.heap.size 2 (.int .i64 v.tr))) (grown_set ((((wr).setCell ⟨w.heap.size, 0, none⟩ (.int .i64 v.li)).setCell ⟨w.heap.size, 1, none⟩ (.int .i64 v.un)).setCell ⟨w.heap.size, 2, none⟩ (.int .i64 v.tr)) w.heap.size 3 (.slice p.HA p.hn p.hc))) (grown_set (((((wr).setCell ⟨w.heap.size, 0, none⟩ (.int .i64 v.li)).setCell ⟨w.heap.size, 1, none⟩ (.int .i64 v.un)).setCell ⟨w.heap.size, 2, none⟩ (.int .i64 v.tr)).setCell ⟨w.heap.size, 3, none⟩ (.slice p.HA p.hn p.hc)) w.heap.size 4 (.int .i64 v.le))) (grown_set ((((((wr).setCell ⟨w.heap.size, 0, none⟩ (.int .i64 v.li)).setCell ⟨w.heap.size, 1, none⟩ (.int .i64 v.un)).setCell ⟨w.heap.size, 2, none⟩ (.int .i64 v.tr)).setCell ⟨w.heap.size, 3, none⟩ (.slice p.HA p.hn p.hc)).setCell ⟨w.heap.size, 4, none⟩ (.int .i64 v.le)) w.heap.size 5 (.slice SA p.sn p.sc))) (grown_set (((((((wr).setCell ⟨w.heap.size, 0, none⟩ (.int .i64 v.li)).setCell ⟨w.heap.size, 1, none⟩ (.int .i64 v.un)).setCell ⟨w.heap.size, 2, none⟩ (.int .i64 v.tr)).setCell ⟨w.heap.size, 3, none⟩ (.slice p.HA p.hn p.hc)).setCell ⟨w.heap.size, 4, none⟩ (.int .i64 v.le)).setCell ⟨w.heap.size, 5, none⟩ (.slice SA p.sn p.sc)) w.heap.size 6 (.slice LA p.ln p.lc))
          obtain ⟨Z, hZ⟩ : ∃ Z, (((((((wr).setCell ⟨w.heap.size, 0, none⟩ (.int .i64 v.li)).setCell ⟨w.heap.size, 1, none⟩ (.int .i64 v.un)).setCell ⟨w.heap.size, 2, none⟩ (.int .i64 v.tr)).setCell ⟨w.heap.size, 3, none⟩ (.slice p.HA p.hn p.hc)).setCell ⟨w.heap.size, 4, none⟩ (.int .i64 v.le)).setCell ⟨w.heap.size, 5, none⟩ (.slice SA p.sn p.sc)).setCell ⟨w.heap.size, 6, none⟩ (.slice LA p.ln p.lc) = Z := ⟨_, rfl⟩
          rw [hZ] at fA fG ⊢
          clear hZ
          obtain ⟨s0, s1, s2, s3, s4, s5, s6, sf, sz⟩ := fA.seven
          have hfin := HX.out.fin HK0.out hgz fG HHL.out HLNS.out HLE.out
          have hgr := gr_own (grownF_trans F1.1 HX.out.ft.1) fG (fun i hi => by cases hi; omega)
          rw [← HSA.out] at s5
          rw [← HLA.out] at s6
          rw [← HSA.out, ← HLA.out] at hfin
          exact bodyPost_ret (v := .agg #[.int .i64 v.li, .int .i64 v.un, .int .i64 v.tr, .slice p.HA p.hn p.hc, .int .i64 v.le, .slice p.SA p.sn p.sc, .slice p.LA p.ln p.lc]) (by simp [results, Try.results42, go_sem, s0, s1, s2, s3, s4, s5, s6]) rfl ⟨⟨⟨v.li, v.un, v.tr, v.le, v.hs, v.ss.map fwS, v.ls.map fwC⟩, p, few_ok HSM.out, HFT.out, rfl, hfin.1⟩, hgr, hfin.2⟩
end Go.Proofs.Ytfcpjkofbejleaa
