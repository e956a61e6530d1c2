/- The reference: sail 74, Sail 34. -/
import Derived.Test.YtfcpjkofbejleaaRsb
import Derived.Test.YtfcpjkofbejleaaLi2M
import Derived.Test.YtfcpjkofbejleaaRchM
import Derived.Test.YtfcpjkofbejleaaSdmM
import Derived.Test.YtfcpjkofbejleaaRcaM
import Derived.Test.YtfcpjkofbejleaaEoM
set_option linter.unusedSimpArgs false
set_option linter.unusedVariables false
namespace Go.Proofs.Ytfcpjkofbejleaa
open Go Go.RowKit
set_option maxRecDepth 100000 in
set_option maxHeartbeats 4000000 in
theorem refSail74_any (v : Vg) (p : Vp) (A : Option Addr) (sn sc : Nat) (s : List Int) (w : World) (hok : StOk v s) (hzz : Zer v) (hV : VoyAt w w.heap.size v p) (hS0 : Sl w w.heap.size 1 A (inr s)) (hl : s.length = sn) :
    Calls Try.prog 74 #[.agg (vcs v p), .slice A sn sc] w fun e w' => (∃ X x, e = .returned (.tuple #[.int .i64 (verdM v.ss.length (salM v (abd v.ls s) true).length (salM v (abd v.ls s) false).length), .slice X (overM v (abd v.ls s)).length x]) ∧ w'.ownsRow w.heap.size 41 2 (.slice X (overM v (abd v.ls s)).length x) (overM v (abd v.ls s)).length (gnr (overM v (abd v.ls s))).flatten) ∧ Below w.heap.size w w' := by
  have k0 := Bx.new w 26 (vcs v p)
  have B0 := (Below.refl w.heap.size w).alloc (Nat.le_refl _) (.cells (vcs v p) 26)
  have HL := Lib.hid hl
  rw [vcs_def] at k0 B0 ⊢
  obtain ⟨V, hVV⟩ : ∃ V, w.alloc (.cells #[.int .i64 v.li, .int .i64 v.un, .int .i64 v.tr, .slice p.HA p.hn p.hc, .int .i64 v.le, .slice p.SA p.sn p.sc, .slice p.LA p.ln p.lc] 26) = V := ⟨_, rfl⟩
  rw [hVV] at k0 B0
  have HVV := Lib.hid hVV
  clear hVV
  obtain ⟨c0, c1, c2, c3, c4, c5, c6, cf, cz⟩ := k0.seven
  have ho := hok.ok
  have hh := inH_held hok.inh
  have hgb := deep_bd ho hh true (fun x hx => hx) (abd_six ho s)
  have hbb := deep_bd ho hh false (fun x hx => hx) (abd_six ho s)
  have hluck := sal_luck ho hh
  have hlen1 := salM_len v (abd v.ls s) true
  have hs4 := ho.s4
  have hun := ho.un
  obtain ⟨g0, hg0⟩ : ∃ x, deepB v (abd v.ls s) true = x := ⟨_, rfl⟩
  obtain ⟨g1, hg1⟩ : ∃ x, deepS v (abd v.ls s) true = x := ⟨_, rfl⟩
  obtain ⟨b0, hb0⟩ : ∃ x, deepB v (abd v.ls s) false = x := ⟨_, rfl⟩
  obtain ⟨b1, hb1⟩ : ∃ x, deepS v (abd v.ls s) false = x := ⟨_, rfl⟩
  rw [hg0, hg1] at hgb
  rw [hb0, hb1] at hbb
  replace hgb : (0 ≤ g0 ∧ g0 ≤ 305000000) ∧ (0 ≤ g1 ∧ g1 ≤ 305000000) := by omega
  replace hbb : (0 ≤ b0 ∧ b0 ≤ 305000000) ∧ (0 ≤ b1 ∧ b1 ≤ 305000000) := by omega
  unfold overM
  obtain ⟨SG, hSG⟩ : ∃ x, salM v (abd v.ls s) true = x := ⟨_, rfl⟩
  obtain ⟨SB, hSB⟩ : ∃ x, salM v (abd v.ls s) false = x := ⟨_, rfl⟩
  obtain ⟨m1, hm1⟩ : ∃ x, (if g0 < g1 then g1 else g0) = x := ⟨_, rfl⟩
  obtain ⟨m2, hm2⟩ : ∃ x, (if b0 < b1 then b1 else b0) = x := ⟨_, rfl⟩
  have hx1 : max g0 g1 = m1 := by rw [← hm1]; split <;> omega
  have hx2 : max b0 b1 = m2 := by rw [← hm2]; split <;> omega
  have HSG : Hid (sal (slM (m1 + 1000 * v.un) v.ss true) v.le = SG) := Lib.hid (by rw [← hx1, ← hSG, ← hg0, ← hg1]; rfl)
  have HSB : Hid (sal (slM (m2 + 1000 * v.un) v.ss false) v.le = SB) := Lib.hid (by rw [← hx2, ← hSB, ← hb0, ← hb1]; rfl)
  have hnd1 : 0 ≤ m1 + 1000 * v.un ∧ m1 + 1000 * v.un ≤ 1000000000 := by omega
  have hnd2 : 0 ≤ m2 + 1000 * v.un ∧ m2 + 1000 * v.un ≤ 1000000000 := by omega
  have hwu : IntKind.i64.wrap (1000 * v.un) = 1000 * v.un := IntWalk.i64_in _ (by omega)
  have hw1 : IntKind.i64.wrap (m1 + 1000 * v.un) = m1 + 1000 * v.un := IntWalk.i64_in _ (by omega)
  have hw2 : IntKind.i64.wrap (m2 + 1000 * v.un) = m2 + 1000 * v.un := IntWalk.i64_in _ (by omega)
  have HM1 := Lib.hid hm1
  have HM2 := Lib.hid hm2
  rw [hSG, hSB] at hluck ⊢
  rw [hSG] at hlen1
  obtain ⟨n1, hn1⟩ : ∃ x, SG.length = x := ⟨_, rfl⟩
  obtain ⟨n2, hn2⟩ : ∃ x, SB.length = x := ⟨_, rfl⟩
  have hzl : (SG.zip SB).length = n2 := by simp; omega
  rw [hn1, hn2] at hluck
  rw [hn1] at hlen1
  rw [hn1, hn2, hzl, hV.sl]
  have hn12 := hluck.1
  have hn4 : n1 ≤ 4 := by omega
  have hn1s : n1 ≤ p.sn := by rw [← hV.sl]; exact hlen1
  have HN1 := Lib.hid hn1
  have HN2 := Lib.hid hn2
  have HG0 := Lib.hid hg0
  have HG1 := Lib.hid hg1
  have HB0 := Lib.hid hb0
  have HB1 := Lib.hid hb1
  have hsn4 : p.sn ≤ 4 := by rw [← hV.sl]; exact hs4
  obtain ⟨vd, hvd⟩ : ∃ x, verdM p.sn n1 n2 = x := ⟨_, rfl⟩
  have HVD := Lib.hid hvd
  rw [hvd]
  obtain ⟨i41, hi41, hz41, hs41, iy41⟩ := info_parts info41
  clear hl hSG hSB hg0 hg1 hb0 hb1 hn1 hn2 hluck hlen1 hzl hvd hx1 hx2
  go_enter Try.func74, Try.ntmps74
  go_upto_region 2 with (first
    | (go_at_call 56; rw [HVV.out]; refine (refDrafts56_any v p A sn sc s _ hok (hV.call B0) ((hS0.below B0).more B0.size) HL.out).mono ?_; rintro e w_1 ⟨rfl, hb_1⟩; rw [HG0.out, HG1.out, HB0.out, HB1.out]; have k_1 := k0.call hb_1; have B_1 := B0.trans (hb_1.mono B0.size))
    | fail)
  clear c0 c1 c2 c3 c4 c5 c6 cf cz k0 hb_1
  have q1 := (Bx.new w_1 41 #[.int .i64 g0, .int .i64 b0]).alloc (.cells #[.int .i64 g1, .int .i64 b1] 41)
  have q2 := Bx.at (w_1.alloc (.cells #[.int .i64 g0, .int .i64 b0] 41)) 41 #[.int .i64 g1, .int .i64 b1] (n := w_1.heap.size + 1) (by simp)
  have hq := ((Below.refl w_1.heap.size w_1).alloc (Nat.le_refl _) (.cells #[.int .i64 g0, .int .i64 b0] 41)).alloc (by simp) (.cells #[.int .i64 g1, .int .i64 b1] 41)
  obtain ⟨Y, hY⟩ : ∃ X, (w_1.alloc (.cells #[.int .i64 g0, .int .i64 b0] 41)).alloc (.cells #[.int .i64 g1, .int .i64 b1] 41) = X := ⟨_, rfl⟩
  rw [hY] at q1 q2 hq ⊢
  have kY := k_1.call hq
  have BY := B_1.trans (hq.mono B_1.size)
  clear hY hq k_1 B_1
  obtain ⟨c0, c1, c2, c3, c4, c5, c6, cf, cz⟩ := kY.seven
  obtain ⟨x0, x1, xf, xz⟩ := q1.two'
  obtain ⟨y0, y1, yf, yz⟩ := q2.two'
  go_upto_region 3 with (first
    | (go_at_call 99; refine (refWay_any v p (m1 + 1000 * v.un) true _ ho hzz (hV.call BY) hnd1).mono ?_; rintro e w_2 ⟨⟨X1, n1', e1, rfl, O1, hn1'⟩, hb_2⟩; rw [HSG.out] at O1 hn1'; obtain rfl : n1 = n1' := HN1.out.symm.trans hn1'.out; have kY2 := kY.call hb_2; have BY2 := BY.trans (hb_2.mono BY.size))
    | fail)
  clear c0 c1 c2 c3 c4 c5 c6 cf cz x0 x1 xf xz y0 y1 yf yz kY BY
  replace q1 := q1.call hb_2
  replace q2 := q2.call hb_2
  have R1 := own_inr O1 HN1.out
  obtain ⟨c0, c1, c2, c3, c4, c5, c6, cf, cz⟩ := kY2.seven
  obtain ⟨x0, x1, xf, xz⟩ := q1.two'
  obtain ⟨y0, y1, yf, yz⟩ := q2.two'
  go_upto_region 4 with (first
    | (go_at_call 99; refine (refWay_any v p (m2 + 1000 * v.un) false _ ho hzz (hV.call BY2) hnd2).mono ?_; rintro e w_3 ⟨⟨X2, n2', e2, rfl, O2, hn2'⟩, hb_3⟩; rw [HSB.out] at O2 hn2'; obtain rfl : n2 = n2' := HN2.out.symm.trans hn2'.out; have kY3 := kY2.call hb_3; have BY3 := BY2.trans (hb_3.mono BY2.size))
    | fail)
  clear c0 c1 c2 c3 c4 c5 c6 cf cz x0 x1 xf xz y0 y1 yf yz kY2 BY2 q1 q2 hm1 hm2
  replace R1 := R1.call hb_3
  have R2 := own_inr O2 HN2.out
  obtain ⟨Y, hY⟩ : ∃ X, w_3 = X := ⟨_, rfl⟩
  rw [hY] at R1 R2 kY3 BY3 ⊢
  have hYs := BY3.size
  clear hY hb_2 hb_3 O1 O2
  go_wp2_with fail
  go_loopw [10, 11] (fun ov iv wr => ∃ (k : Nat) (X : Option Addr) (x : Nat), iv = .int .i64 k ∧ k ≤ n2 ∧ ov = .slice X k x ∧ wr.ownsRow Y.heap.size 41 2 (.slice X k x) k (gnr ((SG.zip SB).take k)).flatten ∧ Below Y.heap.size Y wr) (fun _ iv _ => n2 - (intOf iv).toNat)
  case atStart => exact ⟨0, none, 0, rfl, by omega, rfl, by rw [List.take_zero]; exact World.ownsRow_nil _ _ _ _, Below.refl _ _⟩
  case round =>
    obtain ⟨k, X, x, rfl, hk, rfl, OO, hYr⟩ := hrel
    have hYrs := hYr.size
    by_cases hkn : k < n2
    · have h1 : k < SG.length := by rw [HN1.out]; omega
      have h2 : k < SB.length := by rw [HN2.out]; omega
      obtain ⟨a1, hX1, _, m1⟩ := inr_at (R1.call hYr) h1
      obtain ⟨a2, hX2, _, m2⟩ := inr_at (R2.call hYr) h2
      have HZ := Lib.hid (zip_take2 SG SB h1 h2)
      generalize SG[k] = f at *
      generalize SB[k] = l at *
      have hkn1 : k < n1 := by omega
      have hkw : IntKind.i64.wrap ((k : Int) + 1) = (k : Int) + 1 := IntWalk.i64_in _ (by omega)
      subst hX1 hX2
      clear R1 R2
      go_wp2_with fail
      obtain ⟨U, hU⟩ : ∃ U, U = wr := ⟨_, rfl⟩
      subst hU
      refine AnyG.startC (by kernel_rfl) ?_
      refine AnyG.takeP (i := 0) (v := ?_) rfl (by kernel_rfl) (fun _ _ _ h => h) rfl ?_ ?_
      rotate_left
      · (intro w'; go_simp; try with_reducible rfl)
      try simp only [Act.put, List.getElem_toArray, List.getElem_cons_succ, List.getElem_cons_zero, List.setIfInBounds_toArray, List.set_cons_zero, List.set_cons_succ]
      refine AnyG.takeP (i := 1) (v := ?_) rfl (by kernel_rfl) (fun _ _ _ h => h) rfl ?_ ?_
      rotate_left
      · (intro w'; go_simp; try with_reducible rfl)
      try simp only [Act.put, List.getElem_toArray, List.getElem_cons_succ, List.getElem_cons_zero, List.setIfInBounds_toArray, List.set_cons_zero, List.set_cons_succ]
      refine AnyG.takeP (i := 2) (v := ?_) rfl (by kernel_rfl) (fun _ _ _ h => h) rfl ?_ ?_
      rotate_left
      · (intro w'; go_simp; try with_reducible rfl)
      try simp only [Act.put, List.getElem_toArray, List.getElem_cons_succ, List.getElem_cons_zero, List.setIfInBounds_toArray, List.set_cons_zero, List.set_cons_succ]
      refine AnyG.takeP (i := 3) (v := ?_) rfl (by kernel_rfl) (fun _ _ _ h => h) rfl ?_ ?_
      rotate_left
      · (intro w'; go_simp; try with_reducible rfl)
      try simp only [Act.put, List.getElem_toArray, List.getElem_cons_succ, List.getElem_cons_zero, List.setIfInBounds_toArray, List.set_cons_zero, List.set_cons_succ]
      refine AnyG.takeP (i := 5) (v := ?_) rfl (by kernel_rfl) (fun _ _ _ h => h) rfl ?_ ?_
      rotate_left
      · (intro w'; go_simp; try with_reducible rfl)
      try simp only [Act.put, List.getElem_toArray, List.getElem_cons_succ, List.getElem_cons_zero, List.setIfInBounds_toArray, List.set_cons_zero, List.set_cons_succ]
      refine AnyG.takeP (i := 6) (v := ?_) rfl (by kernel_rfl) (fun _ _ _ h => h) rfl ?_ ?_
      rotate_left
      · (intro w'; go_simp; try with_reducible rfl)
      try simp only [Act.put, List.getElem_toArray, List.getElem_cons_succ, List.getElem_cons_zero, List.setIfInBounds_toArray, List.set_cons_zero, List.set_cons_succ]
      refine AnyG.takeP (i := 7) (v := ?_) rfl (by kernel_rfl) (fun _ _ _ h => h) rfl ?_ ?_
      rotate_left
      · (intro w'; go_simp; try with_reducible rfl)
      try simp only [Act.put, List.getElem_toArray, List.getElem_cons_succ, List.getElem_cons_zero, List.setIfInBounds_toArray, List.set_cons_zero, List.set_cons_succ]
      refine AnyG.enter (fun w' : World => Below U.heap.size U w') (fun i => i != 11 && i != 12) ?_
      have hS : (fun w' : World => Below U.heap.size U w') (World.drew _) := (Below.refl _ _).drew
      refine AnyG.takeC (i := 4) (v := ?_) rfl (by kernel_rfl) (fun _ _ _ h => h) rfl ?_ hS ?_
      rotate_left
      · (intro w' hSw; (try dsimp only at hSw); have p0 := cellC hSw m1; go_simp; try with_reducible rfl)
      try simp only [Act.put, List.getElem_toArray, List.getElem_cons_succ, List.getElem_cons_zero, List.setIfInBounds_toArray, List.set_cons_zero, List.set_cons_succ]
      refine AnyG.takeC (i := 8) (v := ?_) rfl (by kernel_rfl) (fun _ _ _ h => h) rfl ?_ hS ?_
      rotate_left
      · (intro w' hSw; (try dsimp only at hSw); have p0 := cellC hSw m2; go_simp; try with_reducible rfl)
      try simp only [Act.put, List.getElem_toArray, List.getElem_cons_succ, List.getElem_cons_zero, List.setIfInBounds_toArray, List.set_cons_zero, List.set_cons_succ]
      refine AnyG.takeC (i := 9) (v := ?_) rfl (by kernel_rfl) (fun _ _ _ h => h) rfl ?_ hS ?_
      rotate_left
      · (intro w' hSw; (try dsimp only at hSw); go_simp; try with_reducible rfl)
      try simp only [Act.put, List.getElem_toArray, List.getElem_cons_succ, List.getElem_cons_zero, List.setIfInBounds_toArray, List.set_cons_zero, List.set_cons_succ]
      refine AnyG.one (i := 10) (by kernel_rfl) rfl rfl ?_
      try dsimp only at hS
      obtain ⟨z, hz⟩ : ∃ z, U.drew = z := ⟨_, rfl⟩
      rw [hz] at hS ⊢
      go_simp
      have O2 := own_bel (own_bel OO hS) (bel1 z (.cells #[.int .i64 f, .int .i64 l] 41))
      have kn := Bx.new z 41 #[.int .i64 f, .int .i64 l]
      have hzs := hS.size
      clear hz
      refine Onward.on (hS.alloc hS.size _) (fun hS2 => ?_)
      clear hS
      have hS := hS2
      clear hS2
      try simp only [Act.put, List.getElem_toArray, List.getElem_cons_succ, List.getElem_cons_zero, List.setIfInBounds_toArray, List.set_cons_zero, List.set_cons_succ]
      refine AnyG.one (i := 11) (by kernel_rfl) rfl rfl ?_
      have hT := hS
      refine wp_app2 (.tmp 46) (.tmp 56) 52 rfl Y.heap.size 41 i41 _ 2 16 Try.underlying52 hi41 hz41 hs41 iy41 rfl (by decide) (.slice X k x) k (gnr ((SG.zip SB).take k)).flatten (by simp [Act.eval]) O2 ⟨z.heap.size, 0, none⟩ 1 1 [.int .i64 f, .int .i64 l] (by simp [Act.eval]) rfl (bx_news kn) (by simp [Value.oneCell']) (by unfold maxLen; omega) (by omega) (by simp; omega) ?_
      intro v' w' o1 o2 o3 o4
      obtain ⟨X', x', rfl⟩ := own_shape o1
      refine Onward.last rfl ?_
      try simp only [Act.put, List.getElem_toArray, List.getElem_cons_succ, List.getElem_cons_zero, List.setIfInBounds_toArray, List.set_cons_zero, List.set_cons_succ]
      refine AnyG.one (i := 12) (by kernel_rfl) rfl rfl ?_
      go_simp
      refine Onward.last rfl ?_
      try simp only [Act.put, List.getElem_toArray, List.getElem_cons_succ, List.getElem_cons_zero, List.setIfInBounds_toArray, List.set_cons_zero, List.set_cons_succ]
      refine AnyG.done (by kernel_rfl) ?_ _
      go_simp
      go_wp2_with fail
      go_roundw
      case rel =>
        refine ⟨k + 1, X', x', by go_num, by omega, rfl, ?_, (hYr.trans (hT.mono hYrs)).grown o2 (by have := hT.size; omega) (fun q e => (O2.lt q e).1)⟩
        rw [HZ.out, gnr_snoc]; exact o1
      case measure => simp [intOf]; omega
    · obtain rfl : k = n2 := by omega
      have hW := BY3.trans (hYr.mono hYs)
      have OD := own_down OO hYs
      rw [List.take_of_length_le (by simp [HN1.out, HN2.out]; omega)] at OD
      obtain ⟨c0, c1, c2, c3, c4, c5, c6, cf, cz⟩ := (kY3.call hYr).seven
      clear R1 R2
      have hvv := HVD.out
      unfold verdM at hvv
      by_cases e1 : k = p.sn
      · have hs1 : vd = 1 := by rw [if_pos e1] at hvv; exact hvv.symm
        have d1 : ((k : Int) == (p.sn : Int)) = true := by simp; omega
        subst hs1
        clear hvv e1
        go_wp2_with fail
        exact bodyPost_ret (v := .tuple #[.int .i64 1, .slice X k x]) (by simp [results, Try.results74, go_sem]) rfl ⟨⟨X, x, rfl, OD⟩, hW⟩
      · have d1 : ((k : Int) == (p.sn : Int)) = false := by simp; omega
        by_cases e2 : n1 < p.sn
        · have hs1 : vd = 2 := by rw [if_neg e1, if_pos e2] at hvv; exact hvv.symm
          have d2 : decide (n1 < p.sn) = true := decide_eq_true e2
          subst hs1
          clear hvv e1
          go_wp2_with fail
          exact bodyPost_ret (v := .tuple #[.int .i64 2, .slice X k x]) (by simp [results, Try.results74, go_sem]) rfl ⟨⟨X, x, rfl, OD⟩, hW⟩
        · have hs1 : vd = 3 := by rw [if_neg e1, if_neg e2] at hvv; exact hvv.symm
          have d2 : decide (n1 < p.sn) = false := decide_eq_false e2
          subst hs1
          clear hvv e1
          go_wp2_with fail
          exact bodyPost_ret (v := .tuple #[.int .i64 3, .slice X k x]) (by simp [results, Try.results74, go_sem]) rfl ⟨⟨X, x, rfl, OD⟩, hW⟩
set_option maxRecDepth 100000 in
set_option maxHeartbeats 4000000 in
theorem refSail34_any (v : Vg) (p : Vp) (A : Option Addr) (sn sc : Nat) (s : List Int) (w : World) (hF : p.Fit) (hLF : LvFit v) (hV : VoyAt w w.heap.size v p) (hS0 : Sl w w.heap.size 1 A (inr s)) (hl : s.length = sn) (hsn : sn ≤ 1000000) :
    Calls Try.prog 34 #[.agg (vcs v p), .slice A sn sc] w fun e w' => (if ckSt v s = 0 then ∃ X x, e = .returned (.tuple #[.int .i64 (verdM v.ss.length (salM v (abd v.ls s) true).length (salM v (abd v.ls s) false).length), .slice X (overM v (abd v.ls s)).length x, .int .i64 0]) ∧ w'.ownsRow w.heap.size 41 2 (.slice X (overM v (abd v.ls s)).length x) (overM v (abd v.ls s)).length (gnr (overM v (abd v.ls s))).flatten else e = .returned (.tuple #[.int .i64 0, .slice none 0 0, .int .i64 (ckSt v s)])) ∧ Below w.heap.size w w' := by
  have k0 := Bx.new w 26 (vcs v p)
  have B0 := (Below.refl w.heap.size w).alloc (Nat.le_refl _) (.cells (vcs v p) 26)
  have HL := Lib.hid hl
  obtain ⟨E, hE⟩ : ∃ E, ckSt v s = E := ⟨_, rfl⟩
  have HE := Lib.hid hE
  rw [vcs_def] at k0 B0 ⊢
  obtain ⟨V, hVV⟩ : ∃ V, w.alloc (.cells #[.int .i64 v.li, .int .i64 v.un, .int .i64 v.tr, .slice p.HA p.hn p.hc, .int .i64 v.le, .slice p.SA p.sn p.sc, .slice p.LA p.ln p.lc] 26) = V := ⟨_, rfl⟩
  rw [hVV] at k0 B0
  have HVV := Lib.hid hVV
  clear hVV
  obtain ⟨c0, c1, c2, c3, c4, c5, c6, cf, cz⟩ := k0.seven
  rw [hE]
  by_cases hz : E = 0
  case neg =>
    have hz1 : (E != 0) = true := by simpa using hz
    simp only [if_neg hz]
    clear hE hl
    go_enter Try.func34, Try.ntmps34
    go_wp2_with (first
      | (go_at_call 30; rw [HVV.out]; refine (refCheckStowage_any v p A sn sc s V hF hLF (hV.call B0) ((hS0.below B0).more B0.size) HL.out hsn).mono ?_; rintro e w_1 ⟨rfl, hb_1⟩; rw [HE.out]; have B_1 := B0.trans (hb_1.mono B0.size))
      | fail)
    exact bodyPost_ret (v := .tuple #[.int .i64 0, .slice none 0 0, .int .i64 E]) (by simp [results, Try.results34, go_sem]) rfl ⟨rfl, B_1⟩
  subst hz
  have hok := ckSt_ok hE
  have hck : ckV v = 0 := by
    unfold ckSt at hE
    split at hE
    · rename_i hn; exact absurd hE hn
    · rename_i hn; exact Decidable.of_not_not hn
  have hzz := zer_ok hck
  obtain ⟨vd, hvd⟩ : ∃ x, verdM v.ss.length (salM v (abd v.ls s) true).length (salM v (abd v.ls s) false).length = x := ⟨_, rfl⟩
  obtain ⟨OV, hov⟩ : ∃ x, overM v (abd v.ls s) = x := ⟨_, rfl⟩
  simp only [if_pos (rfl : (0 : Int) = 0)]
  rw [hvd, hov]
  have HVD := Lib.hid hvd
  have HOV := Lib.hid hov
  clear hE hl hvd hov hck
  go_enter Try.func34, Try.ntmps34
  go_wp2_with (first
    | (go_at_call 30; rw [HVV.out]; refine (refCheckStowage_any v p A sn sc s V hF hLF (hV.call B0) ((hS0.below B0).more B0.size) HL.out hsn).mono ?_; rintro e w_1 ⟨rfl, hb_1⟩; rw [HE.out]; have B_1 := B0.trans (hb_1.mono B0.size); have k_1 := k0.call hb_1; clear c0 c1 c2 c3 c4 c5 c6 cf cz; obtain ⟨c0, c1, c2, c3, c4, c5, c6, cf, cz⟩ := k_1.seven)
    | (go_at_call 74; refine (refSail74_any v p A sn sc s _ hok hzz (hV.call B_1) ((hS0.below B_1).more B_1.size) HL.out).mono ?_; rintro e w_2 ⟨⟨X, x, rfl, O1⟩, hb_2⟩; rw [HVD.out]; rw [HOV.out] at O1 ⊢)
    | fail)
  exact bodyPost_ret (v := .tuple #[.int .i64 vd, .slice X OV.length x, .int .i64 0]) (by simp [results, Try.results34, go_sem]) rfl ⟨⟨X, x, rfl, own_down O1 B_1.size⟩, B_1.trans (hb_2.mono B_1.size)⟩

end Go.Proofs.Ytfcpjkofbejleaa

/-! Sail and Best, the answers in one form. -/
namespace Go.Proofs.Ytfcpjkofbejleaa
open Go Go.RowKit
def vR (v : Vg) (s : List Int) : Int := if ckSt v s = 0 then verdM v.ss.length (salM v (abd v.ls s) true).length (salM v (abd v.ls s) false).length else 0
def oR (v : Vg) (s : List Int) : List (Int × Int) := if ckSt v s = 0 then overM v (abd v.ls s) else []
theorem oR_len {v : Vg} {s : List Int} (h : v.ss.length ≤ 20) : (oR v s).length ≤ 20 := by
  unfold oR
  split
  · unfold overM
    have := salM_len v (abd v.ls s) true
    simp
    omega
  · simp
theorem sl_nil {w : World} {B s : Nat} {A : Option Addr} : Sl w B s A [] := fun k r h => by simp at h
def SlPost (v : Vg) (s : List Int) (w : World) (e : Ending) (w' : World) : Prop :=
  (∃ X n x, e = .returned (.tuple #[.int .i64 (vR v s), .slice X n x, .int .i64 (ckSt v s)]) ∧ Sl w' w'.heap.size 2 X (gnr (oR v s)) ∧ Hid ((oR v s).length = n)) ∧ Below w.heap.size w w'
theorem sl_post {v : Vg} {s : List Int} {w : World} {e : Ending} {w' : World} (h : (if ckSt v s = 0 then ∃ X x, e = .returned (.tuple #[.int .i64 (verdM v.ss.length (salM v (abd v.ls s) true).length (salM v (abd v.ls s) false).length), .slice X (overM v (abd v.ls s)).length x, .int .i64 0]) ∧ w'.ownsRow w.heap.size 41 2 (.slice X (overM v (abd v.ls s)).length x) (overM v (abd v.ls s)).length (gnr (overM v (abd v.ls s))).flatten else e = .returned (.tuple #[.int .i64 0, .slice none 0 0, .int .i64 (ckSt v s)])) ∧ Below w.heap.size w w') : SlPost v s w e w' := by
  refine ⟨?_, h.2⟩
  obtain ⟨h, -⟩ := h
  unfold vR oR
  by_cases hz : ckSt v s = 0
  · rw [if_pos hz] at h
    obtain ⟨X, x, rfl, o⟩ := h
    rw [if_pos hz, if_pos hz, hz]
    exact ⟨X, _, x, rfl, own_gnr o rfl, Lib.hid rfl⟩
  · rw [if_neg hz] at h
    rw [if_neg hz, if_neg hz]
    exact ⟨none, 0, 0, h, sl_nil, Lib.hid rfl⟩
theorem sailP_any (v : Vg) (p : Vp) (A : Option Addr) (sn sc : Nat) (s : List Int) (w : World) (hF : p.Fit) (hLF : LvFit v) (hV : VoyAt w w.heap.size v p) (hS0 : Sl w w.heap.size 1 A (inr s)) (hl : s.length = sn) (hsn : sn ≤ 1000000) :
    Calls Try.prog 33 #[.agg (vcs v p), .slice A sn sc] w (SlPost v s w) := (sail33_any v p A sn sc s w hF hLF hV hS0 hl hsn).mono fun _ _ h => sl_post h
theorem sailR_any (v : Vg) (p : Vp) (A : Option Addr) (sn sc : Nat) (s : List Int) (w : World) (hF : p.Fit) (hLF : LvFit v) (hV : VoyAt w w.heap.size v p) (hS0 : Sl w w.heap.size 1 A (inr s)) (hl : s.length = sn) (hsn : sn ≤ 1000000) :
    Calls Try.prog 34 #[.agg (vcs v p), .slice A sn sc] w (SlPost v s w) := (refSail34_any v p A sn sc s w hF hLF hV hS0 hl hsn).mono fun _ _ h => sl_post h
/-- Two pairs. -/
theorem pairs2_of {V : World} {bv bl : Nat} {v0 v : Vg} {p0 p : Vp} {A0 A1 : Option Addr} {n0 d0 n1 d1 : Nat} {s0 s1 : List Int}
    (kB : Bx V bv 26 #[.int .i64 v0.li, .int .i64 v0.un, .int .i64 v0.tr, .slice p0.HA p0.hn p0.hc, .int .i64 v0.le, .slice p0.SA p0.sn p0.sc, .slice p0.LA p0.ln p0.lc, .int .i64 v.li, .int .i64 v.un, .int .i64 v.tr, .slice p.HA p.hn p.hc, .int .i64 v.le, .slice p.SA p.sn p.sc, .slice p.LA p.ln p.lc]) (kL : Bx V bl 27 #[.slice A0 n0 d0, .slice A1 n1 d1])
    (h0 : VoyAt V V.heap.size v0 p0) (h : VoyAt V V.heap.size v p) (g0 : Sl V V.heap.size 1 A0 (inr s0)) (g1 : Sl V V.heap.size 1 A1 (inr s1))
    (o0 : v0.Slim) (o : v.Slim) (l0 : s0.length = n0) (l1 : s1.length = n1) (m0 : n0 ≤ 20) (m1 : n1 ≤ 20) :
    ∀ k, k < 2 → ∃ (v : Vg) (p : Vp) (s : List Int) (A : Option Addr) (n c : Nat), PairAt V ⟨bv, 0, none⟩ ⟨bl, 0, none⟩ k v p s A n c ∧ PairOk v p s n := by
  intro k hk
  rcases k with _ | _ | k
  · exact ⟨v0, p0, s0, A0, n0, d0, ⟨kB.cell 0, kB.cell 1, kB.cell 2, kB.cell 3, kB.cell 4, kB.cell 5, kB.cell 6, kL.cell 0, h0, g0⟩, o0, h0.hl, h0.sl, h0.ll, l0, m0⟩
  · exact ⟨v, p, s1, A1, n1, d1, ⟨kB.cell 7, kB.cell 8, kB.cell 9, kB.cell 10, kB.cell 11, kB.cell 12, kB.cell 13, kL.cell 1, h, g1⟩, o, h.hl, h.sl, h.ll, l1, m1⟩
  · omega
/-- A voyage in a list. -/
structure OneAt (W : World) (ad : Addr) (k : Nat) (v : Vg) (p : Vp) : Prop where
  c0 : W.cell? (ad.add (k * 7)) = some (.int .i64 v.li)
  c1 : W.cell? ⟨(ad.add (k * 7)).block, (ad.add (k * 7)).off + 1, none⟩ = some (.int .i64 v.un)
  c2 : W.cell? ⟨(ad.add (k * 7)).block, (ad.add (k * 7)).off + 2, none⟩ = some (.int .i64 v.tr)
  c3 : W.cell? ⟨(ad.add (k * 7)).block, (ad.add (k * 7)).off + 3, none⟩ = some (.slice p.HA p.hn p.hc)
  c4 : W.cell? ⟨(ad.add (k * 7)).block, (ad.add (k * 7)).off + 4, none⟩ = some (.int .i64 v.le)
  c5 : W.cell? ⟨(ad.add (k * 7)).block, (ad.add (k * 7)).off + 5, none⟩ = some (.slice p.SA p.sn p.sc)
  c6 : W.cell? ⟨(ad.add (k * 7)).block, (ad.add (k * 7)).off + 6, none⟩ = some (.slice p.LA p.ln p.lc)
  hV : VoyAt W W.heap.size v p
theorem OneAt.call {W X : World} {ad : Addr} {k : Nat} {v : Vg} {p : Vp} (h : OneAt W ad k v p) (b : Below W.heap.size W X) : OneAt X ad k v p :=
  ⟨cellC b h.c0, cellC b h.c1, cellC b h.c2, cellC b h.c3, cellC b h.c4, cellC b h.c5, cellC b h.c6, h.hV.call b⟩
end Go.Proofs.Ytfcpjkofbejleaa
