/- ShipTrue. -/
import Derived.Test.YtfcpjkofbejleaaFs
import Derived.Test.YtfcpjkofbejleaaYe
set_option linter.unusedSimpArgs false
set_option linter.unusedVariables false
namespace Go.Proofs.Ytfcpjkofbejleaa
open Go Go.RowKit
theorem Bx.two' {w : World} {g : Nat} {t : TypeId} {a b : Value} (k : Bx w g t #[a, b]) : w.cell? ⟨g, 0, none⟩ = some a ∧ w.cell? ⟨g, 1, none⟩ = some b ∧ (∀ o, w.frozen? ⟨g, o, none⟩ = false) ∧ g < w.heap.size :=
  ⟨k.cell 0, k.cell 1, k.free, k.lt⟩
/-- What is so of a truth, by what is said. -/
structure TrF (B0 B1 S0 S1 t1 t2 vd : Int) (OV : List (Int × Int)) (n2 sn : Nat) (bw st : Int) (l : List Int) : Prop where
  b : B0 ≤ bw ∧ bw ≤ B1
  s : S0 ≤ st ∧ st ≤ S1
  t : t1 ≤ bw - st ∧ bw - st ≤ t2
  n : n2 ≤ l.length
  o : ∀ (i : Nat) (y : Int × Int), OV[i]? = some y → ∃ m, l[i]? = some m ∧ y.1 ≤ m ∧ m ≤ y.2
  v : (vd = 1 → l.length = sn) ∧ (vd = 2 → l.length ≠ sn) ∧ (vd = 1 ∨ vd = 2 ∨ vd = 3)
  l : l.length ≤ sn
theorem tr_facts {v : Vg} {x : Tru} {s : List Int} (hst : StOk v s) (hx : TruOk v x) : TrF (deepB v (abd v.ls s) true) (deepB v (abd v.ls s) false) (deepS v (abd v.ls s) true) (deepS v (abd v.ls s) false) (tiltP v.hs (abd v.ls s)).1 (tiltP v.hs (abd v.ls s)).2 (verdM v.ss.length (salM v (abd v.ls s) true).length (salM v (abd v.ls s) false).length) (overM v (abd v.ls s)) (overM v (abd v.ls s)).length v.ss.length (trB v x s) (trT v x s) (salT v x s) :=
  ⟨trB_in hst hx, trT_in hst hx, tilt_in hst hx, by rw [overM_len hst.ok (inH_held hst.inh)]; exact (salT_in hst hx).1.1, fun i y h => over_in hst hx h, verd_in hst hx rfl, salT_len hx s⟩
theorem fits_is {vd : Int} {nl sn : Nat} (h : (vd = 1 → nl = sn) ∧ (vd = 2 → nl ≠ sn) ∧ (vd = 1 ∨ vd = 2 ∨ vd = 3)) : (vd = 1 → ((nl : Int) == (sn : Int)) = true) ∧ (vd = 2 → ((nl : Int) == (sn : Int)) = false) ∧ (vd = 1 ∨ vd = 2 ∨ vd = 3) := by
  refine ⟨fun e => ?_, fun e => ?_, h.2.2⟩
  · rw [h.1 e]; simp
  · have := h.2.1 e
    simp only [beq_eq_false_iff_ne, ne_eq]
    omega
theorem lvl_tr {v : Vg} {x : Int × Int} (h : lvlOk v x = true) : x.2 ≤ 1000 * v.tr ∧ -x.1 ≤ 1000 * v.tr := by
  unfold lvlOk at h
  have := of_decide_eq_true h
  omega
set_option maxRecDepth 100000 in
set_option maxHeartbeats 8000000 in
theorem shipTrue_run (A : Option Addr) (n c : Nat) (L : List Int) (w : World) (hn : n ≤ 9000000000000000000) (hl : L.length = n) (hA : Sl w w.heap.size 1 A (ints L)) : Calls Try.prog 6 #[.slice A n c] w fun e w' => e = .returned (.bool true) ∧ Below w.heap.size w w' := by
  have HL := Lib.hid hl
  clear hl
  obtain ⟨i3, hi3, hz3, hs3, iy3⟩ := info_parts info3'
  go_enter Try.func6, Try.ntmps6
  go_upto_region 3 with (first
    | (go_at_call 16; refine (feedOf_any A n c L _ hn HL.out hA).mono ?_; rintro e w1 ⟨⟨g, rfl, hg0, hfd⟩, hb1⟩)
    | (go_at_call 18; have U1 := (FT.self hfd).alloc (.cells #[.int .i64 4, .int .i64 30] 3); refine (either_any g w1.heap.size 2 #[.int .i64 4, .int .i64 30] (fun z => z = 4 ∨ z = 30) _ U1.2 (Bx.new w1 3 _) (by have := hfd.lt; omega) (by omega) (by omega) (bx2 _ (by omega) (by omega))).mono ?_; rintro e w2 ⟨⟨T, rfl, hT⟩, hf2, hg2⟩; have U2 := U1.call hg2 hf2; clear hf2 hg2 U1)
    | (go_at_call 17; refine (voyageOf_any g 3 4 6 T _ U2.2 (by omega) (by omega) (by omega) (by omega) (by omega) (by omega) (by omega) (by omega)).mono ?_; rintro e w3 ⟨⟨v, p, hsm, hFit, rfl, hV0⟩, hU3⟩; have U3 : FT g w1 w3 := ⟨grownF_trans U2.1 hU3.1, hU3.2⟩; rw [vcs_def]; clear hU3 U2)
    | fail)
  have hok := hsm.ok (by omega) (by omega) (by omega) (by omega)
  have hck := hsm.ck (by omega) (by omega) (by omega) (by omega)
  have hlf := hsm.lf
  have HSM := Lib.hid hsm
  have HOK := Lib.hid hok
  have HCK := Lib.hid hck
  have HLF := Lib.hid hlf
  have HFT := Lib.hid hFit
  have hln6 : p.ln ≤ 6 := by rw [← hV0.ll]; exact hok.l6
  have hsn4 : p.sn ≤ 4 := by rw [← hV0.sl]; exact hok.s4
  have hhn3 : p.hn ≤ 3 := by rw [← hV0.hl]; exact hok.h3
  have hhn1 : 1 ≤ p.hn := by rw [← hV0.hl]; exact hok.h1
  have B1 := (Below.refl w3.heap.size w3).alloc (Nat.le_refl _) (.cells #[.int .i64 v.li, .int .i64 v.un, .int .i64 v.tr, .slice p.HA p.hn p.hc, .int .i64 v.le, .slice p.SA p.sn p.sc, .slice p.LA p.ln p.lc] 26)
  have kO := Bx.new w3 26 #[.int .i64 v.li, .int .i64 v.un, .int .i64 v.tr, .slice p.HA p.hn p.hc, .int .i64 v.le, .slice p.SA p.sn p.sc, .slice p.LA p.ln p.lc]
  have hO := hV0.call B1
  have U4 := U3.alloc (.cells #[.int .i64 v.li, .int .i64 v.un, .int .i64 v.tr, .slice p.HA p.hn p.hc, .int .i64 v.le, .slice p.SA p.sn p.sc, .slice p.LA p.ln p.lc] 26)
  have hgl := U3.2.lt
  have hw13 := U3.size
  obtain ⟨V1, hV1⟩ : ∃ V, w3.alloc (.cells #[.int .i64 v.li, .int .i64 v.un, .int .i64 v.tr, .slice p.HA p.hn p.hc, .int .i64 v.le, .slice p.SA p.sn p.sc, .slice p.LA p.ln p.lc] 26) = V := ⟨_, rfl⟩
  rw [hV1] at kO hO U4 ⊢
  obtain ⟨bO, hbO⟩ : ∃ b, w3.heap.size = b := ⟨_, rfl⟩
  rw [hbO] at kO hgl ⊢
  have hgO : bO ≠ g := by omega
  clear hV1 hbO B1 hV0 U3 hsm hok hck hlf hFit hw13
  obtain ⟨l0, l1, l2, l3, l4, l5, l6, lf', lz⟩ := kO.seven
  go_upto_region 4 with (first
    | (go_at_call 19; refine (stowageOf_any g v p _ U4.2 HCK.out hO).mono ?_; rintro e V ⟨⟨SA, sc, s, rfl, hsl, hst, hSV⟩, hU5⟩; have U5 : FT g w1 V := ⟨grownF_trans U4.1 hU5.1, hU5.2⟩)
    | fail)
  have HSL := Lib.hid hsl
  have HST := Lib.hid hst
  have kV := hU5.bx kO hgO
  have hV := hU5.voy U4.2 hO
  have hBV := U5.be hb1 hg0
  have hFV := U5.2
  clear hb1 hfd U4 U5 hU5 l0 l1 l2 l3 l4 l5 l6 lf' lz kO hO hsl hst hgl
  have hst := ckSt_ok HST.out
  have htb := tilt_bd HOK.out (inH_held hst.inh) (fun x hx => hx) (abd_six HOK.out s)
  have hdb0 := deep_bd HOK.out (inH_held hst.inh) true (fun x hx => hx) (abd_six HOK.out s)
  have hdb1 := deep_bd HOK.out (inH_held hst.inh) false (fun x hx => hx) (abd_six HOK.out s)
  have hlt := lvl_tr (v := v) (x := tiltP v.hs (abd v.ls s))
  have hT1 : ∀ x, TruOk v x → TrF (deepB v (abd v.ls s) true) (deepB v (abd v.ls s) false) (deepS v (abd v.ls s) true) (deepS v (abd v.ls s) false) (tiltP v.hs (abd v.ls s)).1 (tiltP v.hs (abd v.ls s)).2 (verdM v.ss.length (salM v (abd v.ls s) true).length (salM v (abd v.ls s) false).length) (overM v (abd v.ls s)) (overM v (abd v.ls s)).length v.ss.length (trB v x s) (trT v x s) (salT v x s) := fun x hx => tr_facts hst hx
  have hol := overM_len HOK.out (inH_held hst.inh)
  have hol2 := salM_len v (abd v.ls s) false
  obtain ⟨vd, hvd⟩ : ∃ y, verdM v.ss.length (salM v (abd v.ls s) true).length (salM v (abd v.ls s) false).length = y := ⟨_, rfl⟩
  rw [hvd, hV.sl] at hT1
  rw [← hol, hV.sl] at hol2
  obtain ⟨OV, hOV⟩ : ∃ y, overM v (abd v.ls s) = y := ⟨_, rfl⟩
  rw [hOV] at hT1 hol2
  obtain ⟨n2, hn2⟩ : ∃ y, OV.length = y := ⟨_, rfl⟩
  rw [hn2] at hT1 hol2
  obtain ⟨TL, hTL⟩ : ∃ y, tiltP v.hs (abd v.ls s) = y := ⟨_, rfl⟩
  rw [hTL] at hT1 htb hlt
  obtain ⟨LV, hLV⟩ : ∃ y, lvlOk v TL = y := ⟨_, rfl⟩
  rw [hLV] at hlt
  obtain ⟨B0, hB0⟩ : ∃ y, deepB v (abd v.ls s) true = y := ⟨_, rfl⟩
  obtain ⟨B1, hB1⟩ : ∃ y, deepB v (abd v.ls s) false = y := ⟨_, rfl⟩
  obtain ⟨S0, hS0⟩ : ∃ y, deepS v (abd v.ls s) true = y := ⟨_, rfl⟩
  obtain ⟨S1, hS1⟩ : ∃ y, deepS v (abd v.ls s) false = y := ⟨_, rfl⟩
  rw [hB0, hB1, hS0, hS1] at hT1
  rw [hB0, hS0] at hdb0
  rw [hB1, hS1] at hdb1
  have HVD := Lib.hid hvd
  have HOV := Lib.hid hOV
  have HN2 := Lib.hid hn2
  have HTL := Lib.hid hTL
  have HLV := Lib.hid hLV
  have HB0 := Lib.hid hB0
  have HB1 := Lib.hid hB1
  have HS0 := Lib.hid hS0
  have HS1 := Lib.hid hS1
  have htr := HOK.out.tr
  have HLT := Lib.hid hlt
  obtain ⟨t1, t2⟩ := TL
  dsimp only at htb hT1
  have HTF := Lib.hid hT1
  clear hT1
  clear hst hvd hol hOV hn2 hTL hLV hB0 hB1 hS0 hS1 hlt
  obtain ⟨l0, l1, l2, l3, l4, l5, l6, lf', lz⟩ := kV.seven
  go_upto_region 5 with (first
    | (go_at_call 23; refine (drafts_any v p SA p.ln sc s _ HFT.out HLF.out hV hSV HSL.out (by omega)).mono ?_; rintro e w5 ⟨rfl, hb5⟩; rw [if_pos HST.out, HB0.out, HB1.out, HS0.out, HS1.out])
    | fail)
  clear l0 l1 l2 l3 l4 l5 l6 lf' lz
  have F5 := (((FT.self hFV).bel hb5).alloc (.cells #[.int .i64 B0, .int .i64 B1] 41)).alloc (.cells #[.int .i64 S0, .int .i64 S1] 41)
  have k6 := (Bx.new w5 41 #[.int .i64 B0, .int .i64 B1]).alloc (.cells #[.int .i64 S0, .int .i64 S1] 41)
  have k7 := Bx.at (w5.alloc (.cells #[.int .i64 B0, .int .i64 B1] 41)) 41 #[.int .i64 S0, .int .i64 S1] (n := w5.heap.size + 1) (by simp)
  have hg6 : w5.heap.size ≠ g := by have := hFV.lt; have := hb5.size; omega
  have hg7 : w5.heap.size + 1 ≠ g := by have := hFV.lt; have := hb5.size; omega
  obtain ⟨V5, hV5⟩ : ∃ W, (w5.alloc (.cells #[.int .i64 B0, .int .i64 B1] 41)).alloc (.cells #[.int .i64 S0, .int .i64 S1] 41) = W := ⟨_, rfl⟩
  rw [hV5] at F5 k6 k7 ⊢
  obtain ⟨q6, hq6⟩ : ∃ q, w5.heap.size = q := ⟨_, rfl⟩
  rw [hq6] at k6 k7 hg6 hg7 ⊢
  obtain ⟨q7, hq7⟩ : ∃ q, q6 + 1 = q := ⟨_, rfl⟩
  rw [hq7] at k7 hg7 ⊢
  clear hV5 hq6 hq7 hb5
  have kV5 := F5.bx kV hgO
  have hV5 := F5.voy hFV hV
  have hS5 := F5.sl hFV hSV (inr_no _)
  obtain ⟨l0, l1, l2, l3, l4, l5, l6, lf', lz⟩ := kV5.seven
  go_upto_region 6 with (first
    | (go_at_call 25; refine (level_any v p SA p.ln sc s _ HFT.out HLF.out hV5 hS5 HSL.out (by omega)).mono ?_; rintro e w6 ⟨rfl, hb6⟩; rw [if_pos HST.out, HTL.out, HLV.out])
    | fail)
  clear l0 l1 l2 l3 l4 l5 l6 lf' lz
  try dsimp only
  have F6 := (F5.bel hb6).alloc (.cells #[.int .i64 t1, .int .i64 t2] 41)
  have k10 := Bx.new w6 41 #[.int .i64 t1, .int .i64 t2]
  have hg10 : w6.heap.size ≠ g := by have := F5.2.lt; have := hb6.size; omega
  replace k6 := (k6.call hb6).alloc (.cells #[.int .i64 t1, .int .i64 t2] 41)
  replace k7 := (k7.call hb6).alloc (.cells #[.int .i64 t1, .int .i64 t2] 41)
  obtain ⟨V6, hV6⟩ : ∃ W, w6.alloc (.cells #[.int .i64 t1, .int .i64 t2] 41) = W := ⟨_, rfl⟩
  rw [hV6] at F6 k6 k7 k10 ⊢
  obtain ⟨q10, hq10⟩ : ∃ q, w6.heap.size = q := ⟨_, rfl⟩
  rw [hq10] at k10 hg10 ⊢
  clear hV6 hq10 hb6 kV5 hV5 hS5 F5
  have kV6 := F6.bx kV hgO
  have hV6 := F6.voy hFV hV
  have hS6 := F6.sl hFV hSV (inr_no _)
  have HVD2 := Lib.hid (show verdM v.ss.length (salM v (abd v.ls s) true).length (salM v (abd v.ls s) false).length = vd from HVD.out)
  obtain ⟨l0, l1, l2, l3, l4, l5, l6, lf', lz⟩ := kV6.seven
  go_upto_region 7 with (first
    | (go_at_call 33; refine (sail33_any v p SA p.ln sc s _ HFT.out HLF.out hV6 hS6 HSL.out (by omega)).mono ?_; rintro e W ⟨hp7, hb7⟩; rw [if_pos HST.out, HVD.out, HOV.out, HN2.out] at hp7; obtain ⟨X7, x7, rfl, o7⟩ := hp7)
    | fail)
  clear l0 l1 l2 l3 l4 l5 l6 lf' lz
  have F7 := F6.bel hb7
  replace k6 := k6.call hb7
  replace k7 := k7.call hb7
  replace k10 := k10.call hb7
  have kW := F7.bx kV hgO
  have hVW := F7.voy hFV hV
  have hSW := F7.sl hFV hSV (inr_no _)
  have hFW := F7.2
  have hBW := F7.be hBV hg0
  have hOW := own_gnr o7 HN2.out
  have hns : (p.sn < n2) = False := eq_false (by omega)
  clear kV6 hV6 hS6 F6 F7 hb7 o7 kV hV hSV hFV hBV
  obtain ⟨l0, l1, l2, l3, l4, l5, l6, lf', lz⟩ := kW.seven
  go_wp2_with fail
  clear l0 l1 l2 l3 l4 l5 l6 lf' lz
  go_loopw [15] (fun iv wr => ∃ (i : Nat), iv = .int .i64 i ∧ i ≤ 5 ∧ FT g W wr) (fun iv _ => 5 - (intOf iv).toNat)
  case atStart => exact ⟨0, rfl, by omega, .self hFW⟩
  case round =>
    obtain ⟨i, rfl, hi, F⟩ := hrel
    by_cases hi5 : i < 5
    · have hiw : IntKind.i64.wrap ((i : Int) + 1) = (i : Int) + 1 := IntWalk.i64_in _ (by omega)
      have hi5i : (i : Int) < 5 := by omega
      go_wp2_with fail
      refine AnyG.startC (by kernel_rfl) ?_
      refine AnyG.takeP (i := 0) (v := ?_) rfl (by kernel_rfl) (fun _ _ _ h => h) rfl ?_ ?_
      rotate_left
      · (intro w'; go_simp; try with_reducible rfl)
      try simp only [Act.put, List.getElem_toArray, List.getElem_cons_succ, List.getElem_cons_zero, List.setIfInBounds_toArray, List.set_cons_zero, List.set_cons_succ]
      refine AnyG.takeP (i := 4) (v := ?_) rfl (by kernel_rfl) (fun _ _ _ h => h) rfl ?_ ?_
      rotate_left
      · (intro w'; go_simp; try with_reducible rfl)
      try simp only [Act.put, List.getElem_toArray, List.getElem_cons_succ, List.getElem_cons_zero, List.setIfInBounds_toArray, List.set_cons_zero, List.set_cons_succ]
      refine AnyG.enter (fun w' : World => Bx w' bO 26 #[.int .i64 v.li, .int .i64 v.un, .int .i64 v.tr, .slice p.HA p.hn p.hc, .int .i64 v.le, .slice p.SA p.sn p.sc, .slice p.LA p.ln p.lc] ∧ FT g W w') (fun i => true) ?_
      have hS : (fun w' : World => Bx w' bO 26 #[.int .i64 v.li, .int .i64 v.un, .int .i64 v.tr, .slice p.HA p.hn p.hc, .int .i64 v.le, .slice p.SA p.sn p.sc, .slice p.LA p.ln p.lc] ∧ FT g W w') (World.drew _) := ⟨(F.bx kW hgO).drew, F.drew⟩
      refine AnyG.takeC (i := 1) (v := ?_) rfl (by kernel_rfl) (fun _ _ _ h => h) rfl ?_ hS ?_
      rotate_left
      · (intro w' hSw; (try dsimp only at hSw); obtain ⟨x0, x1, x2, x3, x4, x5, x6, xf, xz⟩ := hSw.1.seven; go_simp; try with_reducible rfl)
      try simp only [Act.put, List.getElem_toArray, List.getElem_cons_succ, List.getElem_cons_zero, List.setIfInBounds_toArray, List.set_cons_zero, List.set_cons_succ]
      refine AnyG.takeC (i := 3) (v := ?_) rfl (by kernel_rfl) (fun _ _ _ h => h) rfl ?_ hS ?_
      rotate_left
      · (intro w' hSw; (try dsimp only at hSw); obtain ⟨x0, x1, x2, x3, x4, x5, x6, xf, xz⟩ := hSw.1.seven; go_simp; try with_reducible rfl)
      try simp only [Act.put, List.getElem_toArray, List.getElem_cons_succ, List.getElem_cons_zero, List.setIfInBounds_toArray, List.set_cons_zero, List.set_cons_succ]
      refine AnyG.one (i := 2) (by kernel_rfl) rfl rfl ?_
      go_simp
      refine (factOf_any g v p _ hS.2.2 HOK.out (hS.2.voy hFW hVW)).mono ?_
      rintro er y2 ⟨⟨x, TA, tn, tc, WA, wn, wc, DA, dn, dc, hx, ht, hw, hd, rfl, hFac⟩, hU⟩
      refine Onward.on ⟨hU.bx hS.1 hgO, ⟨grownF_trans hS.2.1 hU.1, hU.2⟩⟩ (fun hS2 => ?_)
      clear hS
      have hS := hS2
      clear hS2
      try simp only [Act.put, List.getElem_toArray, List.getElem_cons_succ, List.getElem_cons_zero, List.setIfInBounds_toArray, List.set_cons_zero, List.set_cons_succ]
      refine AnyG.one (i := 5) (by kernel_rfl) rfl rfl ?_
      go_simp
      refine (sailed_any v p x s SA p.ln sc TA tn tc WA wn wc DA dn dc _ (ckSt_ok HST.out) hx ht hw hd HSL.out (hS.2.voy hFW hVW) hFac (hS.2.sl hFW hSW (inr_no _))).mono ?_
      rintro er y5 ⟨⟨X, c, rfl, o5⟩, hb5⟩
      refine Onward.on ⟨hS.1.call hb5, hS.2.bel hb5⟩ (fun hS2 => ?_)
      clear hS
      have hS := hS2
      clear hS2
      try simp only [Act.put, List.getElem_toArray, List.getElem_cons_succ, List.getElem_cons_zero, List.setIfInBounds_toArray, List.set_cons_zero, List.set_cons_succ]
      refine AnyG.takeC (i := 6) (v := ?_) rfl (by kernel_rfl) (fun _ _ _ h => h) rfl ?_ hS ?_
      rotate_left
      · (intro w' hSw; (try dsimp only at hSw); go_simp; try with_reducible rfl)
      try simp only [Act.put, List.getElem_toArray, List.getElem_cons_succ, List.getElem_cons_zero, List.setIfInBounds_toArray, List.set_cons_zero, List.set_cons_succ]
      refine AnyG.takeC (i := 7) (v := ?_) rfl (by kernel_rfl) (fun _ _ _ h => h) rfl ?_ hS ?_
      rotate_left
      · (intro w' hSw; (try dsimp only at hSw); go_simp; try with_reducible rfl)
      try simp only [Act.put, List.getElem_toArray, List.getElem_cons_succ, List.getElem_cons_zero, List.setIfInBounds_toArray, List.set_cons_zero, List.set_cons_succ]
      refine AnyG.takeC (i := 8) (v := ?_) rfl (by kernel_rfl) (fun _ _ _ h => h) rfl ?_ hS ?_
      rotate_left
      · (intro w' hSw; (try dsimp only at hSw); go_simp; try with_reducible rfl)
      try simp only [Act.put, List.getElem_toArray, List.getElem_cons_succ, List.getElem_cons_zero, List.setIfInBounds_toArray, List.set_cons_zero, List.set_cons_succ]
      refine AnyG.takeC (i := 9) (v := ?_) rfl (by kernel_rfl) (fun _ _ _ h => h) rfl ?_ hS ?_
      rotate_left
      · (intro w' hSw; (try dsimp only at hSw); go_simp; try with_reducible rfl)
      try simp only [Act.put, List.getElem_toArray, List.getElem_cons_succ, List.getElem_cons_zero, List.setIfInBounds_toArray, List.set_cons_zero, List.set_cons_succ]
      refine AnyG.one (i := 10) (by kernel_rfl) rfl rfl ?_
      go_simp
      refine Onward.on hS (fun hS2 => ?_)
      clear hS
      have hS := hS2
      clear hS2
      try simp only [Act.put, List.getElem_toArray, List.getElem_cons_succ, List.getElem_cons_zero, List.setIfInBounds_toArray, List.set_cons_zero, List.set_cons_succ]
      refine AnyG.one (i := 11) (by kernel_rfl) rfl rfl ?_
      go_simp
      refine Onward.on hS (fun hS2 => ?_)
      clear hS
      have hS := hS2
      clear hS2
      try simp only [Act.put, List.getElem_toArray, List.getElem_cons_succ, List.getElem_cons_zero, List.setIfInBounds_toArray, List.set_cons_zero, List.set_cons_succ]
      refine AnyG.one (i := 12) (by kernel_rfl) rfl rfl ?_
      go_simp
      refine Onward.on hS (fun hS2 => ?_)
      clear hS
      have hS := hS2
      clear hS2
      try simp only [Act.put, List.getElem_toArray, List.getElem_cons_succ, List.getElem_cons_zero, List.setIfInBounds_toArray, List.set_cons_zero, List.set_cons_succ]
      refine AnyG.done (by kernel_rfl) ?_ _
      go_simp
      have F9 := hS.2
      have hTR := HTF.out x hx
      have O9 := own_inr o5 rfl
      clear hS hb5 o5 hFac hU
      obtain ⟨bw, hbw⟩ : ∃ b, trB v x s = b := ⟨_, rfl⟩
      obtain ⟨st, hst⟩ : ∃ b, trT v x s = b := ⟨_, rfl⟩
      obtain ⟨LL, hLL⟩ : ∃ b, salT v x s = b := ⟨_, rfl⟩
      rw [hbw, hst, hLL] at hTR
      rw [hLL] at O9
      rw [hbw, hst, hLL]
      obtain ⟨nl, hnl⟩ : ∃ b, LL.length = b := ⟨_, rfl⟩
      have hn1 := hTR.n
      have hvv := hTR.v
      have hl1 := hTR.l
      rw [hnl] at hn1 hvv hl1
      rw [hnl]
      have HNL := Lib.hid hnl
      have HVV := Lib.hid (fits_is hvv)
      clear hvv
      have hb12 := hTR.b
      have hs12 := hTR.s
      have ht12 := hTR.t
      have HTO := Lib.hid hTR.o
      have wap : IntKind.i64.wrap (bw - st) = bw - st := IntWalk.i64_in _ (by omega)
      have w1000 : IntKind.i64.wrap (1000 * v.tr) = 1000 * v.tr := IntWalk.i64_in _ (by omega)
      have w1001 : IntKind.i64.wrap (-1000 * v.tr) = -1000 * v.tr := IntWalk.i64_in _ (by omega)
      have w1002 : IntKind.i64.wrap (-(1000 * v.tr)) = -(1000 * v.tr) := IntWalk.i64_in _ (by omega)
      have hnf : (nl < n2) = False := eq_false (by omega)
      clear hTR hbw hst hLL hnl HTF
      obtain ⟨a0, a1, af, az⟩ := (F9.bx k6 hg6).two'
      obtain ⟨b0, b1, bf, bz⟩ := (F9.bx k7 hg7).two'
      obtain ⟨c0, c1, cf, cz⟩ := (F9.bx k10 hg10).two'
      obtain ⟨l0, l1, l2, l3, l4, l5, l6, lf', lz⟩ := (F9.bx kW hgO).seven
      cases LV
      · clear HLT
        go_upto_region 16 with (first
          | (go_at_call 40; refine (inside_any _ _ _ (by omega) (by omega) _).mono ?_; rintro e w9 ⟨rfl, hb9⟩; replace F9 := F9.bel hb9; replace O9 := O9.call hb9; clear hb9; clear a0 a1 af az b0 b1 bf bz c0 c1 cf cz l0 l1 l2 l3 l4 l5 l6 lf' lz; obtain ⟨a0, a1, af, az⟩ := (F9.bx k6 hg6).two'; obtain ⟨b0, b1, bf, bz⟩ := (F9.bx k7 hg7).two'; obtain ⟨c0, c1, cf, cz⟩ := (F9.bx k10 hg10).two'; obtain ⟨l0, l1, l2, l3, l4, l5, l6, lf', lz⟩ := (F9.bx kW hgO).seven)
          | (go_at_call 41; refine (fits_any vd ((nl : Int) == (p.sn : Int)) HVV.out _).mono ?_; rintro e w9 ⟨rfl, hb9⟩; replace F9 := F9.bel hb9; replace O9 := O9.call hb9; clear hb9; clear a0 a1 af az b0 b1 bf bz c0 c1 cf cz l0 l1 l2 l3 l4 l5 l6 lf' lz; obtain ⟨a0, a1, af, az⟩ := (F9.bx k6 hg6).two'; obtain ⟨b0, b1, bf, bz⟩ := (F9.bx k7 hg7).two'; obtain ⟨c0, c1, cf, cz⟩ := (F9.bx k10 hg10).two'; obtain ⟨l0, l1, l2, l3, l4, l5, l6, lf', lz⟩ := (F9.bx kW hgO).seven)
          | fail)
        clear a0 a1 af az b0 b1 bf bz c0 c1 cf cz l0 l1 l2 l3 l4 l5 l6 lf' lz
        obtain ⟨Wl, rfl⟩ : ∃ Z, Z = w9 := ⟨_, rfl⟩
        have hOl := F9.sl hFW hOW (gnr_no _)
        have O9l := O9
        go_wp2_with fail
        go_loopw [20] (fun iv wx => ∃ (k : Nat), iv = .int .i64 k ∧ k ≤ n2 ∧ Below Wl.heap.size Wl wx) (fun iv _ => n2 - (intOf iv).toNat)
        case atStart => exact ⟨0, rfl, by omega, Below.refl _ _⟩
        case round =>
          obtain ⟨k, rfl, hk, hI⟩ := hrel
          by_cases hkn : k < n2
          · have hko : k < OV.length := by rw [HN2.out]; exact hkn
            have hkl : k < LL.length := by rw [HNL.out]; omega
            obtain ⟨m, hm, hym⟩ := HTO.out k _ (List.getElem?_eq_getElem hko)
            rw [List.getElem?_eq_getElem hkl, Option.some.injEq] at hm
            obtain ⟨e1, rfl, _, g0, g1⟩ := gnr_at (hOl.call hI) hko
            obtain ⟨e2, rfl, _, g2⟩ := inr_at (O9l.call hI) hkl
            rw [hm] at g2
            generalize OV[k] = y at *
            have hknl : k < nl := by omega
            have hkw : IntKind.i64.wrap ((k : Int) + 1) = (k : Int) + 1 := IntWalk.i64_in _ (by omega)
            clear hm hko hkl
            go_wp2_with fail
            refine AnyG.startC (by kernel_rfl) ?_
            refine AnyG.takeP (i := 0) (v := ?_) rfl (by kernel_rfl) (fun _ _ _ h => h) rfl ?_ ?_
            rotate_left
            · (intro w'; go_simp; try with_reducible rfl)
            try simp only [Act.put, List.getElem_toArray, List.getElem_cons_succ, List.getElem_cons_zero, List.setIfInBounds_toArray, List.set_cons_zero, List.set_cons_succ]
            refine AnyG.takeP (i := 1) (v := ?_) rfl (by kernel_rfl) (fun _ _ _ h => h) rfl ?_ ?_
            rotate_left
            · (intro w'; go_simp; try with_reducible rfl)
            try simp only [Act.put, List.getElem_toArray, List.getElem_cons_succ, List.getElem_cons_zero, List.setIfInBounds_toArray, List.set_cons_zero, List.set_cons_succ]
            refine AnyG.takeP (i := 2) (v := ?_) rfl (by kernel_rfl) (fun _ _ _ h => h) rfl ?_ ?_
            rotate_left
            · (intro w'; go_simp; try with_reducible rfl)
            try simp only [Act.put, List.getElem_toArray, List.getElem_cons_succ, List.getElem_cons_zero, List.setIfInBounds_toArray, List.set_cons_zero, List.set_cons_succ]
            refine AnyG.takeP (i := 4) (v := ?_) rfl (by kernel_rfl) (fun _ _ _ h => h) rfl ?_ ?_
            rotate_left
            · (intro w'; go_simp; try with_reducible rfl)
            try simp only [Act.put, List.getElem_toArray, List.getElem_cons_succ, List.getElem_cons_zero, List.setIfInBounds_toArray, List.set_cons_zero, List.set_cons_succ]
            refine AnyG.takeP (i := 5) (v := ?_) rfl (by kernel_rfl) (fun _ _ _ h => h) rfl ?_ ?_
            rotate_left
            · (intro w'; go_simp; try with_reducible rfl)
            try simp only [Act.put, List.getElem_toArray, List.getElem_cons_succ, List.getElem_cons_zero, List.setIfInBounds_toArray, List.set_cons_zero, List.set_cons_succ]
            refine AnyG.takeP (i := 6) (v := ?_) rfl (by kernel_rfl) (fun _ _ _ h => h) rfl ?_ ?_
            rotate_left
            · (intro w'; go_simp; try with_reducible rfl)
            try simp only [Act.put, List.getElem_toArray, List.getElem_cons_succ, List.getElem_cons_zero, List.setIfInBounds_toArray, List.set_cons_zero, List.set_cons_succ]
            refine AnyG.enter (fun w' : World => Below wr.heap.size wr w') (fun i => true) ?_
            have hS : (fun w' : World => Below wr.heap.size wr w') (World.drew _) := (Below.refl _ _).drew
            refine AnyG.takeC (i := 3) (v := ?_) rfl (by kernel_rfl) (fun _ _ _ h => h) rfl ?_ hS ?_
            rotate_left
            · (intro w' hSw; (try dsimp only at hSw); have p0 := cellC hSw g0; have p1 := cellC hSw g1; go_simp; try with_reducible rfl)
            try simp only [Act.put, List.getElem_toArray, List.getElem_cons_succ, List.getElem_cons_zero, List.setIfInBounds_toArray, List.set_cons_zero, List.set_cons_succ]
            refine AnyG.takeC (i := 7) (v := ?_) rfl (by kernel_rfl) (fun _ _ _ h => h) rfl ?_ hS ?_
            rotate_left
            · (intro w' hSw; (try dsimp only at hSw); have p2 := cellC hSw g2; go_simp; try with_reducible rfl)
            try simp only [Act.put, List.getElem_toArray, List.getElem_cons_succ, List.getElem_cons_zero, List.setIfInBounds_toArray, List.set_cons_zero, List.set_cons_succ]
            refine AnyG.one (i := 8) (by kernel_rfl) rfl rfl ?_
            go_simp
            refine (inside_any y.1 y.2 m hym.1 hym.2 _).mono ?_
            rintro er y8 ⟨rfl, hb8⟩
            refine Onward.on (hS.trans (hb8.mono hS.size)) (fun hS2 => ?_)
            clear hS
            have hS := hS2
            clear hS2
            try simp only [Act.put, List.getElem_toArray, List.getElem_cons_succ, List.getElem_cons_zero, List.setIfInBounds_toArray, List.set_cons_zero, List.set_cons_succ]
            refine AnyG.one (i := 9) (by kernel_rfl) rfl rfl ?_
            go_simp
            refine Onward.on hS (fun hS2 => ?_)
            clear hS
            have hS := hS2
            clear hS2
            try simp only [Act.put, List.getElem_toArray, List.getElem_cons_succ, List.getElem_cons_zero, List.setIfInBounds_toArray, List.set_cons_zero, List.set_cons_succ]
            refine AnyG.done (by kernel_rfl) ?_ _
            go_simp
            have hE : Below wr.heap.size wr y8 := hS
            clear hS
            go_wp2_with fail
            go_roundw
            case rel => exact ⟨k + 1, by go_num, by omega, hI.trans (hE.mono hI.size)⟩
            case measure => simp [intOf]; omega
          · obtain rfl : k = n2 := by omega
            have FE := F9.bel hI
            go_wp2_with fail
            go_roundw
            case rel => exact ⟨i + 1, by go_num, by omega, FE⟩
            case measure => simp [intOf]; omega
      · have hlt := HLT.out rfl
        try dsimp only at hlt
        have cc1 : (1000 * v.tr < bw - st) = False := eq_false (by omega)
        have cc2 : (bw - st < -1000 * v.tr) = False := eq_false (by omega)
        have cc3 : (bw - st < -(1000 * v.tr)) = False := eq_false (by omega)
        clear HLT hlt
        go_upto_region 16 with (first
          | (go_at_call 40; refine (inside_any _ _ _ (by omega) (by omega) _).mono ?_; rintro e w9 ⟨rfl, hb9⟩; replace F9 := F9.bel hb9; replace O9 := O9.call hb9; clear hb9; clear a0 a1 af az b0 b1 bf bz c0 c1 cf cz l0 l1 l2 l3 l4 l5 l6 lf' lz; obtain ⟨a0, a1, af, az⟩ := (F9.bx k6 hg6).two'; obtain ⟨b0, b1, bf, bz⟩ := (F9.bx k7 hg7).two'; obtain ⟨c0, c1, cf, cz⟩ := (F9.bx k10 hg10).two'; obtain ⟨l0, l1, l2, l3, l4, l5, l6, lf', lz⟩ := (F9.bx kW hgO).seven)
          | (go_at_call 41; refine (fits_any vd ((nl : Int) == (p.sn : Int)) HVV.out _).mono ?_; rintro e w9 ⟨rfl, hb9⟩; replace F9 := F9.bel hb9; replace O9 := O9.call hb9; clear hb9; clear a0 a1 af az b0 b1 bf bz c0 c1 cf cz l0 l1 l2 l3 l4 l5 l6 lf' lz; obtain ⟨a0, a1, af, az⟩ := (F9.bx k6 hg6).two'; obtain ⟨b0, b1, bf, bz⟩ := (F9.bx k7 hg7).two'; obtain ⟨c0, c1, cf, cz⟩ := (F9.bx k10 hg10).two'; obtain ⟨l0, l1, l2, l3, l4, l5, l6, lf', lz⟩ := (F9.bx kW hgO).seven)
          | fail)
        clear a0 a1 af az b0 b1 bf bz c0 c1 cf cz l0 l1 l2 l3 l4 l5 l6 lf' lz
        obtain ⟨Wl, rfl⟩ : ∃ Z, Z = w9 := ⟨_, rfl⟩
        have hOl := F9.sl hFW hOW (gnr_no _)
        have O9l := O9
        go_wp2_with fail
        go_loopw [20] (fun iv wx => ∃ (k : Nat), iv = .int .i64 k ∧ k ≤ n2 ∧ Below Wl.heap.size Wl wx) (fun iv _ => n2 - (intOf iv).toNat)
        case atStart => exact ⟨0, rfl, by omega, Below.refl _ _⟩
        case round =>
          obtain ⟨k, rfl, hk, hI⟩ := hrel
          by_cases hkn : k < n2
          · have hko : k < OV.length := by rw [HN2.out]; exact hkn
            have hkl : k < LL.length := by rw [HNL.out]; omega
            obtain ⟨m, hm, hym⟩ := HTO.out k _ (List.getElem?_eq_getElem hko)
            rw [List.getElem?_eq_getElem hkl, Option.some.injEq] at hm
            obtain ⟨e1, rfl, _, g0, g1⟩ := gnr_at (hOl.call hI) hko
            obtain ⟨e2, rfl, _, g2⟩ := inr_at (O9l.call hI) hkl
            rw [hm] at g2
            generalize OV[k] = y at *
            have hknl : k < nl := by omega
            have hkw : IntKind.i64.wrap ((k : Int) + 1) = (k : Int) + 1 := IntWalk.i64_in _ (by omega)
            clear hm hko hkl
            go_wp2_with fail
            refine AnyG.startC (by kernel_rfl) ?_
            refine AnyG.takeP (i := 0) (v := ?_) rfl (by kernel_rfl) (fun _ _ _ h => h) rfl ?_ ?_
            rotate_left
            · (intro w'; go_simp; try with_reducible rfl)
            try simp only [Act.put, List.getElem_toArray, List.getElem_cons_succ, List.getElem_cons_zero, List.setIfInBounds_toArray, List.set_cons_zero, List.set_cons_succ]
            refine AnyG.takeP (i := 1) (v := ?_) rfl (by kernel_rfl) (fun _ _ _ h => h) rfl ?_ ?_
            rotate_left
            · (intro w'; go_simp; try with_reducible rfl)
            try simp only [Act.put, List.getElem_toArray, List.getElem_cons_succ, List.getElem_cons_zero, List.setIfInBounds_toArray, List.set_cons_zero, List.set_cons_succ]
            refine AnyG.takeP (i := 2) (v := ?_) rfl (by kernel_rfl) (fun _ _ _ h => h) rfl ?_ ?_
            rotate_left
            · (intro w'; go_simp; try with_reducible rfl)
            try simp only [Act.put, List.getElem_toArray, List.getElem_cons_succ, List.getElem_cons_zero, List.setIfInBounds_toArray, List.set_cons_zero, List.set_cons_succ]
            refine AnyG.takeP (i := 4) (v := ?_) rfl (by kernel_rfl) (fun _ _ _ h => h) rfl ?_ ?_
            rotate_left
            · (intro w'; go_simp; try with_reducible rfl)
            try simp only [Act.put, List.getElem_toArray, List.getElem_cons_succ, List.getElem_cons_zero, List.setIfInBounds_toArray, List.set_cons_zero, List.set_cons_succ]
            refine AnyG.takeP (i := 5) (v := ?_) rfl (by kernel_rfl) (fun _ _ _ h => h) rfl ?_ ?_
            rotate_left
            · (intro w'; go_simp; try with_reducible rfl)
            try simp only [Act.put, List.getElem_toArray, List.getElem_cons_succ, List.getElem_cons_zero, List.setIfInBounds_toArray, List.set_cons_zero, List.set_cons_succ]
            refine AnyG.takeP (i := 6) (v := ?_) rfl (by kernel_rfl) (fun _ _ _ h => h) rfl ?_ ?_
            rotate_left
            · (intro w'; go_simp; try with_reducible rfl)
            try simp only [Act.put, List.getElem_toArray, List.getElem_cons_succ, List.getElem_cons_zero, List.setIfInBounds_toArray, List.set_cons_zero, List.set_cons_succ]
            refine AnyG.enter (fun w' : World => Below wr.heap.size wr w') (fun i => true) ?_
            have hS : (fun w' : World => Below wr.heap.size wr w') (World.drew _) := (Below.refl _ _).drew
            refine AnyG.takeC (i := 3) (v := ?_) rfl (by kernel_rfl) (fun _ _ _ h => h) rfl ?_ hS ?_
            rotate_left
            · (intro w' hSw; (try dsimp only at hSw); have p0 := cellC hSw g0; have p1 := cellC hSw g1; go_simp; try with_reducible rfl)
            try simp only [Act.put, List.getElem_toArray, List.getElem_cons_succ, List.getElem_cons_zero, List.setIfInBounds_toArray, List.set_cons_zero, List.set_cons_succ]
            refine AnyG.takeC (i := 7) (v := ?_) rfl (by kernel_rfl) (fun _ _ _ h => h) rfl ?_ hS ?_
            rotate_left
            · (intro w' hSw; (try dsimp only at hSw); have p2 := cellC hSw g2; go_simp; try with_reducible rfl)
            try simp only [Act.put, List.getElem_toArray, List.getElem_cons_succ, List.getElem_cons_zero, List.setIfInBounds_toArray, List.set_cons_zero, List.set_cons_succ]
            refine AnyG.one (i := 8) (by kernel_rfl) rfl rfl ?_
            go_simp
            refine (inside_any y.1 y.2 m hym.1 hym.2 _).mono ?_
            rintro er y8 ⟨rfl, hb8⟩
            refine Onward.on (hS.trans (hb8.mono hS.size)) (fun hS2 => ?_)
            clear hS
            have hS := hS2
            clear hS2
            try simp only [Act.put, List.getElem_toArray, List.getElem_cons_succ, List.getElem_cons_zero, List.setIfInBounds_toArray, List.set_cons_zero, List.set_cons_succ]
            refine AnyG.one (i := 9) (by kernel_rfl) rfl rfl ?_
            go_simp
            refine Onward.on hS (fun hS2 => ?_)
            clear hS
            have hS := hS2
            clear hS2
            try simp only [Act.put, List.getElem_toArray, List.getElem_cons_succ, List.getElem_cons_zero, List.setIfInBounds_toArray, List.set_cons_zero, List.set_cons_succ]
            refine AnyG.done (by kernel_rfl) ?_ _
            go_simp
            have hE : Below wr.heap.size wr y8 := hS
            clear hS
            go_wp2_with fail
            go_roundw
            case rel => exact ⟨k + 1, by go_num, by omega, hI.trans (hE.mono hI.size)⟩
            case measure => simp [intOf]; omega
          · obtain rfl : k = n2 := by omega
            have FE := F9.bel hI
            go_wp2_with fail
            go_roundw
            case rel => exact ⟨i + 1, by go_num, by omega, FE⟩
            case measure => simp [intOf]; omega
    · obtain rfl : i = 5 := by omega
      have hBr := F.be hBW hg0
      go_wp2_with (first | (go_at_call 15; refine (awake_any _).mono ?_; rintro e z3 ⟨rfl, hq3⟩) | fail)
      go_ret
      exact ⟨rfl, hBr.trans (hq3.mono hBr.size)⟩
end Go.Proofs.Ytfcpjkofbejleaa
