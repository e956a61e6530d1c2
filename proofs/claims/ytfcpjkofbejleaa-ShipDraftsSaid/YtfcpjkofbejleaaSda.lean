/- ShipDrafts: the run. -/
import Derived.Test.YtfcpjkofbejleaaSdmM
set_option linter.unusedSimpArgs false
set_option linter.unusedVariables false
namespace Go.Proofs.Ytfcpjkofbejleaa
open Go Go.RowKit
set_option maxRecDepth 100000 in
set_option maxHeartbeats 80000000 in
theorem shipDrafts_run (v0 : Vg) (p0 : Vp) (A0 : Option Addr) (n0 d0 : Nat) (s0 : List Int) (ta tb : Int) (A : Option Addr) (n c : Nat) (L : List Int) (w : World) (hF0 : p0.Fit) (hLF0 : LvFit v0) (hV00 : VoyAt w w.heap.size v0 p0) (hn0 : n0 ≤ 9223372036854775807) (hl0 : s0.length = n0) (hS00 : Sl w w.heap.size 1 A0 (inr s0)) (ht0 : -9223372036854775808 ≤ ta) (ht1 : ta ≤ 9223372036854775807) (hn : n ≤ 9000000000000000000) (hl : L.length = n) (hA0 : Sl w w.heap.size 1 A (ints L)) :
    Calls Try.prog 3 #[.agg (vcs v0 p0), .slice A0 n0 d0, .int .i64 ta, .int .i64 tb, .slice A n c] w fun e w' => e = .returned (.bool true) ∧ Below w.heap.size w w' := by
  have HL := Lib.hid hl
  have HL0 := Lib.hid hl0
  clear hl hl0
  obtain ⟨i3, hi3, hz3, hs3, iy3⟩ := info_parts info3'
  have kX := Bx.new w 26 (vcs v0 p0)
  have BW := (Below.refl w.heap.size w).alloc (Nat.le_refl _) (.cells (vcs v0 p0) 26)
  have hX := hV00.call BW
  have hS0 := (hS00.below BW).more BW.size
  have hA := (hA0.below BW).more BW.size
  rw [vcs_def] at kX BW hX hS0 hA ⊢
  obtain ⟨W0, hW0⟩ : ∃ V, w.alloc (.cells #[.int .i64 v0.li, .int .i64 v0.un, .int .i64 v0.tr, .slice p0.HA p0.hn p0.hc, .int .i64 v0.le, .slice p0.SA p0.sn p0.sc, .slice p0.LA p0.ln p0.lc] 26) = V := ⟨_, rfl⟩
  rw [hW0] at kX BW hX hS0 hA
  have HW0 := Lib.hid hW0
  obtain ⟨qx, hqx⟩ : ∃ q, w.heap.size = q := ⟨_, rfl⟩
  clear hW0 hV00 hS00 hA0
  go_enter Try.func3, Try.ntmps3
  go_upto_region 1 with fail
  rw [HW0.out]
  rw [hqx] at kX
  try rw [hqx]
  clear HW0 hqx
  go_cut [38] from 32 to 198 (fun v38 x => ∃ b : Bool, v38 = .bool b ∧ Hid (b = false → v0.Slim ∧ n0 ≤ 20) ∧ Below W0.heap.size W0 x)
  case first =>
    obtain ⟨x0, x1, x2, x3, x4, x5, x6, xf, xz⟩ := kX.seven
    go_wp2_with (first
      | (go_at_call 14; refine (wide_any v0 p0 _ hF0 hLF0 hX).mono ?_; rintro e w1 ⟨⟨hb, rfl, hsl⟩, hq1⟩; cases hb)
      | fail)
    rotate_left
    · go_wp2_with fail
      go_meet
      exact ⟨true, rfl, Lib.hid (fun h => by cases h), hq1⟩
    have HSL := Lib.hid (hsl (by simp))
    clear hsl
    by_cases h20 : 20 < n0
    · have d : decide ((20 : Int) < (n0 : Int)) = true := by simp; omega
      clear h20
      go_wp2_with fail
      go_meet
      exact ⟨true, by first | rfl | exact congrArg Value.bool d, Lib.hid (fun h => by cases h), hq1⟩
    · have d : decide ((20 : Int) < (n0 : Int)) = false := by simp; omega
      have H20 := Lib.hid (show n0 ≤ 20 by omega)
      clear h20
      go_wp2_with fail
      go_meet
      exact ⟨false, by first | rfl | exact congrArg Value.bool d, Lib.hid (fun _ => ⟨HSL.out, H20.out⟩), hq1⟩
  case rest =>
    obtain ⟨b, rfl, hbs, hq⟩ := hcut
    replace BW := BW.trans (hq.mono BW.size)
    replace hX := hX.call hq
    replace hS0 := (hS0.below hq).more hq.size
    replace hA := (hA.below hq).more hq.size
    replace kX := kX.call hq
    clear hq
    obtain ⟨W1, hW1⟩ : ∃ U, U = wc := ⟨_, rfl⟩
    subst hW1
    cases b
    rotate_left
    · go_wp2_with (first | (go_at_call 15; refine (awake_any _).mono ?_; rintro e z3 ⟨rfl, hq3⟩) | fail)
      go_ret
      exact ⟨rfl, BW.trans (hq3.mono BW.size)⟩
    have HSL := Lib.hid (hbs.out rfl)
    clear hbs hF0 hLF0
    go_upto_region 5 with (first
      | (go_at_call 16; refine (feedOf_any A n c L _ hn HL.out hA).mono ?_; rintro e w1 ⟨⟨g, rfl, hg0, hfd⟩, hb1⟩)
      | (go_at_call 18; have U1 := (FT.self hfd).alloc (.cells #[.int .i64 4, .int .i64 30] 3); refine (either_any g w1.heap.size 2 #[.int .i64 4, .int .i64 30] (fun z => z = 4 ∨ z = 30) _ U1.2 (Bx.new w1 3 _) (by have := hfd.lt; omega) (by omega) (by omega) (bx2 _ (by omega) (by omega))).mono ?_; rintro e w2 ⟨⟨T, rfl, hT⟩, hf2, hg2⟩; have U2 := U1.call hg2 hf2; clear hf2 hg2 U1)
      | (go_at_call 17; refine (voyageOf_any g 3 2 5 T _ U2.2 (by omega) (by omega) (by omega) (by omega) (by omega) (by omega) (by omega) (by omega)).mono ?_; rintro e w3 ⟨⟨v, p, hsm, hFit, rfl, hV0⟩, hU3⟩; have U3 : FT g w1 w3 := ⟨grownF_trans U2.1 hU3.1, hU3.2⟩; rw [vcs_def]; clear hU3 U2)
      | fail)
    have hck := hsm.ck (by omega) (by omega) (by omega) (by omega)
    have hok := hsm.ok (by omega) (by omega) (by omega) (by omega)
    have hslv : v.Slim := ⟨by have := hok.h3; omega, by have := hok.s4; omega, by have := hok.l6; omega, fun s hs => by have := (hok.ss s hs).l6; omega⟩
    have HCK := Lib.hid hck
    have HSV := Lib.hid hslv
    have hln6 : p.ln ≤ 6 := by rw [← hV0.ll]; exact hok.l6
    have B1 := (Below.refl w3.heap.size w3).alloc (Nat.le_refl _) (.cells #[.int .i64 v.li, .int .i64 v.un, .int .i64 v.tr, .slice p.HA p.hn p.hc, .int .i64 v.le, .slice p.SA p.sn p.sc, .slice p.LA p.ln p.lc] 26)
    have kO := Bx.new w3 26 #[.int .i64 v.li, .int .i64 v.un, .int .i64 v.tr, .slice p.HA p.hn p.hc, .int .i64 v.le, .slice p.SA p.sn p.sc, .slice p.LA p.ln p.lc]
    have hO := hV0.call B1
    have U4 := U3.alloc (.cells #[.int .i64 v.li, .int .i64 v.un, .int .i64 v.tr, .slice p.HA p.hn p.hc, .int .i64 v.le, .slice p.SA p.sn p.sc, .slice p.LA p.ln p.lc] 26)
    have hgl := U3.2.lt
    obtain ⟨V1, hV1⟩ : ∃ V, w3.alloc (.cells #[.int .i64 v.li, .int .i64 v.un, .int .i64 v.tr, .slice p.HA p.hn p.hc, .int .i64 v.le, .slice p.SA p.sn p.sc, .slice p.LA p.ln p.lc] 26) = V := ⟨_, rfl⟩
    rw [hV1] at kO hO U4 ⊢
    obtain ⟨bO, hbO⟩ : ∃ b, w3.heap.size = b := ⟨_, rfl⟩
    rw [hbO] at kO hgl ⊢
    have hgO : bO ≠ g := by omega
    clear hV1 hbO B1 hV0 U3 hsm hck hok hslv hFit
    obtain ⟨l0, l1, l2, l3, l4, l5, l6, lf', lz⟩ := kO.seven
    go_upto_region 6 with (first
      | (go_at_call 19; refine (stowageOf_any g v p _ U4.2 HCK.out hO).mono ?_; rintro e V ⟨⟨SA, sc, s, rfl, hsl, hst, hSV⟩, hU5⟩; have U5 : FT g w1 V := ⟨grownF_trans U4.1 hU5.1, hU5.2⟩)
      | fail)
    have HSN := Lib.hid hsl
    have kV := hU5.bx kO hgO
    have hV := hU5.voy U4.2 hO
    have hBV := U5.be hb1 hg0
    clear hb1 hfd U4 U5 hU5 l0 l1 l2 l3 l4 l5 l6 lf' lz kO hO hsl hst hgl hg0 HCK
    replace BW := BW.trans (hBV.mono BW.size)
    replace hX := hX.call hBV
    replace hS0 := (hS0.below hBV).more hBV.size
    replace kX := kX.call hBV
    clear hBV hA
    go_upto_region 7 with (first
      | (go_at_call 20; refine (ints20_any SA p.ln sc s _ (by omega) HSN.out hSV).mono ?_; rintro e w5 ⟨⟨XA, xc, rfl, ox⟩, hb5⟩)
      | fail)
    go_upto_if 54 with fail
    go_cut [54] from 54 to 198 (fun _ x => ∃ s2 : List Int, s2.length = p.ln ∧ x.ownsRow V.heap.size 3 1 (.slice XA p.ln xc) p.ln (inr s2).flatten ∧ Below V.heap.size V x)
    case first => 
      have hVs : V.heap.size ≤ w5.heap.size := hb5.size
      by_cases h0 : p.ln = 0
      · have hz : decide (0 < p.ln) = false := by simp; omega
        clear h0
        rw [hz]
        go_wp2_with fail
        go_meet
        exact ⟨s, HSN.out, ox, hb5⟩
      · have hz : decide (0 < p.ln) = true := by simp; omega
        have hp1 : 1 ≤ p.ln := by omega
        obtain ⟨xq, rfl⟩ := own_some ox (by omega)
        have hxq := (ox.lt xq rfl).1
        clear h0
        rw [hz]
        go_wp2_with (first
          | (go_at_call 21; refine (round_lt ta p.ln _ ht0 ht1 hp1 (by omega)).mono ?_; rintro e w6 ⟨⟨r, rfl, hr⟩, hq6⟩; have o6 := own_bel ox hq6; have hfree6 := own_free o6; have hcell6 := ins_cell o6 HSN.out (show r < s.length by rw [HSN.out]; exact hr))
          | fail)
        have o7 := own_store o6 r (.int .i64 tb) (by omega)
        rw [ins_set (show r < s.length by rw [HSN.out]; exact hr)] at o7
        go_meet
        exact ⟨s.set r tb, by rw [List.length_set]; exact HSN.out, o7, (hb5.trans (hq6.mono hb5.size)).setCell (p := ⟨xq, r, none⟩) hxq _⟩
    case rest =>
      obtain ⟨s2, hs2, o2, hq⟩ := hcut
      replace BW := BW.trans (hq.mono BW.size)
      replace hX := hX.call hq
      replace hS0 := (hS0.below hq).more hq.size
      replace kX := kX.call hq
      replace kV := kV.call hq
      replace hV := hV.call hq
      replace hSV := (hSV.below hq).more hq.size
      have hS2 := own_ins o2 hs2
      clear hq o2 hb5 ox
      obtain ⟨W2, hW2⟩ : ∃ U, U = wc := ⟨_, rfl⟩
      subst hW2
      obtain ⟨l0, l1, l2, l3, l4, l5, l6, lf', lz⟩ := kV.seven
      obtain ⟨x0, x1, x2, x3, x4, x5, x6, xf, xz⟩ := kX.seven
      go_upto_region 10 with fail
      clear l0 l1 l2 l3 l4 l5 l6 lf' lz x0 x1 x2 x3 x4 x5 x6 xf xz
      have kB := (Bx.new W2 26 #[.int .i64 v0.li, .int .i64 v0.un, .int .i64 v0.tr, .slice p0.HA p0.hn p0.hc, .int .i64 v0.le, .slice p0.SA p0.sn p0.sc, .slice p0.LA p0.ln p0.lc, .int .i64 v.li, .int .i64 v.un, .int .i64 v.tr, .slice p.HA p.hn p.hc, .int .i64 v.le, .slice p.SA p.sn p.sc, .slice p.LA p.ln p.lc, .int .i64 v.li, .int .i64 v.un, .int .i64 v.tr, .slice p.HA p.hn p.hc, .int .i64 v.le, .slice p.SA p.sn p.sc, .slice p.LA p.ln p.lc, .int .i64 v.li, .int .i64 v.un, .int .i64 v.tr, .slice p.HA p.hn p.hc, .int .i64 v.le, .slice p.SA p.sn p.sc, .slice p.LA p.ln p.lc]).alloc (.cells #[.slice A0 n0 d0, .slice SA p.ln sc, .slice XA p.ln xc, .slice A0 n0 d0] 27)
      have kL := Bx.at (W2.alloc (.cells #[.int .i64 v0.li, .int .i64 v0.un, .int .i64 v0.tr, .slice p0.HA p0.hn p0.hc, .int .i64 v0.le, .slice p0.SA p0.sn p0.sc, .slice p0.LA p0.ln p0.lc, .int .i64 v.li, .int .i64 v.un, .int .i64 v.tr, .slice p.HA p.hn p.hc, .int .i64 v.le, .slice p.SA p.sn p.sc, .slice p.LA p.ln p.lc, .int .i64 v.li, .int .i64 v.un, .int .i64 v.tr, .slice p.HA p.hn p.hc, .int .i64 v.le, .slice p.SA p.sn p.sc, .slice p.LA p.ln p.lc, .int .i64 v.li, .int .i64 v.un, .int .i64 v.tr, .slice p.HA p.hn p.hc, .int .i64 v.le, .slice p.SA p.sn p.sc, .slice p.LA p.ln p.lc] 26)) 27 #[.slice A0 n0 d0, .slice SA p.ln sc, .slice XA p.ln xc, .slice A0 n0 d0] (n := W2.heap.size + 1) (by simp)
      have hq := ((Below.refl W2.heap.size W2).alloc (Nat.le_refl _) (.cells #[.int .i64 v0.li, .int .i64 v0.un, .int .i64 v0.tr, .slice p0.HA p0.hn p0.hc, .int .i64 v0.le, .slice p0.SA p0.sn p0.sc, .slice p0.LA p0.ln p0.lc, .int .i64 v.li, .int .i64 v.un, .int .i64 v.tr, .slice p.HA p.hn p.hc, .int .i64 v.le, .slice p.SA p.sn p.sc, .slice p.LA p.ln p.lc, .int .i64 v.li, .int .i64 v.un, .int .i64 v.tr, .slice p.HA p.hn p.hc, .int .i64 v.le, .slice p.SA p.sn p.sc, .slice p.LA p.ln p.lc, .int .i64 v.li, .int .i64 v.un, .int .i64 v.tr, .slice p.HA p.hn p.hc, .int .i64 v.le, .slice p.SA p.sn p.sc, .slice p.LA p.ln p.lc] 26)).alloc (by simp) (.cells #[.slice A0 n0 d0, .slice SA p.ln sc, .slice XA p.ln xc, .slice A0 n0 d0] 27)
      obtain ⟨V, hV3⟩ : ∃ U, (W2.alloc (.cells #[.int .i64 v0.li, .int .i64 v0.un, .int .i64 v0.tr, .slice p0.HA p0.hn p0.hc, .int .i64 v0.le, .slice p0.SA p0.sn p0.sc, .slice p0.LA p0.ln p0.lc, .int .i64 v.li, .int .i64 v.un, .int .i64 v.tr, .slice p.HA p.hn p.hc, .int .i64 v.le, .slice p.SA p.sn p.sc, .slice p.LA p.ln p.lc, .int .i64 v.li, .int .i64 v.un, .int .i64 v.tr, .slice p.HA p.hn p.hc, .int .i64 v.le, .slice p.SA p.sn p.sc, .slice p.LA p.ln p.lc, .int .i64 v.li, .int .i64 v.un, .int .i64 v.tr, .slice p.HA p.hn p.hc, .int .i64 v.le, .slice p.SA p.sn p.sc, .slice p.LA p.ln p.lc] 26)).alloc (.cells #[.slice A0 n0 d0, .slice SA p.ln sc, .slice XA p.ln xc, .slice A0 n0 d0] 27) = U := ⟨_, rfl⟩
      rw [hV3] at kB kL hq ⊢
      replace BW := BW.trans (hq.mono BW.size)
      have hPR := pairs_of kB kL (hX.call hq) (hV.call hq) ((hS0.below hq).more hq.size) ((hSV.below hq).more hq.size) ((hS2.below hq).more hq.size) HSL.out.1 HSV.out HL0.out HSN.out hs2 HSL.out.2 (by omega)
      obtain ⟨al, hal⟩ : ∃ a : Addr, ⟨W2.heap.size + 1, 0, none⟩ = a := ⟨_, rfl⟩
      obtain ⟨ad, had⟩ : ∃ a : Addr, ⟨W2.heap.size, 0, none⟩ = a := ⟨_, rfl⟩
      rw [hal, had] at hPR ⊢
      have HPR := Lib.hid hPR
      clear hV3 kB kL hq hPR hX hV hS0 hSV hS2 hal had kX kV hs2 HSL HSV HL0 HSN HL hln6
      go_wp2_with fail
      go_loopw [17, 18, 19, 20, 21, 22, 23, 24, 25, 26, 27, 28, 29, 30, 31] (fun i _ _ _ _ _ _ _ _ _ _ _ _ _ _ wr => ∃ k : Nat, i = .int .i64 k ∧ k ≤ 4 ∧ Below V.heap.size V wr) (fun i _ _ _ _ _ _ _ _ _ _ _ _ _ _ _ => 4 - (intOf i).toNat)
      case atStart => exact ⟨0, rfl, by omega, Below.refl _ _⟩
      case round =>
        obtain ⟨k, rfl, hk, hBW⟩ := hrel
        by_cases hk4 : k < 4
        · obtain ⟨v, p, s, A, n, c, hP0, hO0⟩ := HPR.out k hk4
          have hPU := hP0.call hBW
          have HO := Lib.hid hO0
          clear hP0 hO0
          have hk4i : (k : Int) < 4 := by omega
          have hkw : IntKind.i64.wrap ((k : Int) + 1) = (k : Int) + 1 := IntWalk.i64_in _ (by omega)
          obtain ⟨W, hW⟩ : ∃ W, W = wr := ⟨_, rfl⟩
          subst hW
          go_upto_region 13 with fail
          obtain ⟨U, hU⟩ : ∃ U, U = W := ⟨_, rfl⟩
          subst hU
          go_cut [18, 19] from 72 to 196 (fun v18 v19 x => ∃ (q : Nat) (HA : Option Addr) (hc : Nat) (SA : Option Addr) (sc : Nat) (LA : Option Addr) (lc : Nat) (B : Option Addr) (d : Nat), v18 = .pointer (some ⟨q, 0, none⟩) ∧ v19 = .slice B n d ∧ Bx x q 26 #[.int .i64 v.li, .int .i64 v.un, .int .i64 v.tr, .slice HA p.hn hc, .int .i64 v.le, .slice SA p.sn sc, .slice LA p.ln lc] ∧ VoyAt x x.heap.size v ⟨HA, p.hn, hc, SA, p.sn, sc, LA, p.ln, lc⟩ ∧ Sl x x.heap.size 1 B (inr s) ∧ Below U.heap.size U x)
          case first =>
            as_aux_lemma =>
              refine AnyG.startC (by kernel_rfl) ?_
              refine AnyG.takeP (i := 0) (v := ?_) rfl (by kernel_rfl) (fun _ _ _ h => h) rfl ?_ ?_
              rotate_left
              · (intro w'; go_simp; try with_reducible rfl)
              try simp only [Act.put, List.getElem_toArray, List.getElem_cons_succ, List.getElem_cons_zero, List.setIfInBounds_toArray, List.set_cons_zero, List.set_cons_succ]
              refine AnyG.takeP (i := 1) (v := ?_) rfl (by kernel_rfl) (fun _ _ _ h => h) rfl ?_ ?_
              rotate_left
              · (intro w'; go_simp; try with_reducible rfl)
              try simp only [Act.put, List.getElem_toArray, List.getElem_cons_succ, List.getElem_cons_zero, List.setIfInBounds_toArray, List.set_cons_zero, List.set_cons_succ]
              refine AnyG.takeP (i := 2) (v := ?_) rfl (by kernel_rfl) (fun _ _ _ h => h) rfl ?_ ?_
              rotate_left
              · (intro w'; go_simp; try with_reducible rfl)
              try simp only [Act.put, List.getElem_toArray, List.getElem_cons_succ, List.getElem_cons_zero, List.setIfInBounds_toArray, List.set_cons_zero, List.set_cons_succ]
              refine AnyG.takeP (i := 5) (v := ?_) rfl (by kernel_rfl) (fun _ _ _ h => h) rfl ?_ ?_
              rotate_left
              · (intro w'; go_simp; try with_reducible rfl)
              try simp only [Act.put, List.getElem_toArray, List.getElem_cons_succ, List.getElem_cons_zero, List.setIfInBounds_toArray, List.set_cons_zero, List.set_cons_succ]
              refine AnyG.takeP (i := 6) (v := ?_) rfl (by kernel_rfl) (fun _ _ _ h => h) rfl ?_ ?_
              rotate_left
              · (intro w'; go_simp; try with_reducible rfl)
              try simp only [Act.put, List.getElem_toArray, List.getElem_cons_succ, List.getElem_cons_zero, List.setIfInBounds_toArray, List.set_cons_zero, List.set_cons_succ]
              refine AnyG.takeP (i := 7) (v := ?_) rfl (by kernel_rfl) (fun _ _ _ h => h) rfl ?_ ?_
              rotate_left
              · (intro w'; go_simp; try with_reducible rfl)
              try simp only [Act.put, List.getElem_toArray, List.getElem_cons_succ, List.getElem_cons_zero, List.setIfInBounds_toArray, List.set_cons_zero, List.set_cons_succ]
              refine AnyG.enter (fun w' : World => Below U.heap.size U w') (fun i => i != 11 && i != 12) ?_
              have hS : (fun w' : World => Below U.heap.size U w') (U.drew) := (Below.refl _ _).drew
              try dsimp only at hS
              obtain ⟨y0, hy0⟩ : ∃ y, U.drew = y := ⟨_, rfl⟩
              rw [hy0] at hS ⊢
              clear hy0
              refine AnyG.takeC (i := 3) (v := ?_) rfl (by kernel_rfl) (fun _ _ _ h => h) rfl ?_ hS ?_
              rotate_left
              · (intro w' hSw; (try dsimp only at hSw); have hp := hPU.call hSw; have c0 := hp.c0; have c1 := hp.c1; have c2 := hp.c2; have c3 := hp.c3; have c4 := hp.c4; have c5 := hp.c5; have c6 := hp.c6; go_simp; try with_reducible rfl)
              try simp only [Act.put, List.getElem_toArray, List.getElem_cons_succ, List.getElem_cons_zero, List.setIfInBounds_toArray, List.set_cons_zero, List.set_cons_succ]
              refine AnyG.takeC (i := 8) (v := ?_) rfl (by kernel_rfl) (fun _ _ _ h => h) rfl ?_ hS ?_
              rotate_left
              · (intro w' hSw; (try dsimp only at hSw); have b0 := (hPU.call hSw).b0; go_simp; try with_reducible rfl)
              try simp only [Act.put, List.getElem_toArray, List.getElem_cons_succ, List.getElem_cons_zero, List.setIfInBounds_toArray, List.set_cons_zero, List.set_cons_succ]
              refine AnyG.all (rs := [4, 10]) (by kernel_rfl) (by simp) ?_
              intro ii hii
              simp only [List.mem_cons, List.not_mem_nil, or_false] at hii
              rcases hii with rfl | rfl
              · refine ⟨_, rfl, rfl, ?_⟩
                go_simp
                refine (copyVoyage_gen v p _ HO.out.slim (hPU.call hS).hV).mono ?_
                rintro e4 z4 ⟨HA, hc, SA, sc, LA, lc, rs, rfl, oh, os, so, -, ol, hq4⟩
                have hSn := (hS.trans (hq4.mono hS.size))
                clear hS
                refine Onward.on hSn (fun hS => ?_)
                try dsimp only at hS
                clear hSn
                try simp only [Act.put, List.getElem_toArray, List.getElem_cons_succ, List.getElem_cons_zero, List.setIfInBounds_toArray, List.set_cons_zero, List.set_cons_succ]
                refine AnyG.all (rs := [9, 10]) (by kernel_rfl) (by simp) ?_
                intro ii hii
                simp only [List.mem_cons, List.not_mem_nil, or_false] at hii
                rcases hii with rfl | rfl
                · refine ⟨_, rfl, rfl, ?_⟩
                  go_simp
                  refine (ints20_any A n c s _ (by have := HO.out.n20; omega) HO.out.sl (hPU.call hS).hS).mono ?_
                  rintro e9 z9 ⟨⟨B, d, rfl, oB⟩, hq9⟩
                  replace oh := own_bel oh hq9
                  replace os := own_bel os hq9
                  replace ol := own_bel ol hq9
                  replace so := so.bel hq9
                  have hSn := (hS.trans (hq9.mono hS.size))
                  clear hS
                  refine Onward.on hSn (fun hS => ?_)
                  try dsimp only at hS
                  clear hSn
                  try simp only [Act.put, List.getElem_toArray, List.getElem_cons_succ, List.getElem_cons_zero, List.setIfInBounds_toArray, List.set_cons_zero, List.set_cons_succ]
                  refine AnyG.one (i := 10) (by kernel_rfl) rfl rfl ?_
                  go_simp
                  have hq10 := bel1 z9 (.cells #[.int .i64 0, .int .i64 0, .int .i64 0, .slice none 0 0, .int .i64 0, .slice none 0 0, .slice none 0 0] 26)
                  replace oh := own_bel oh hq10
                  replace os := own_bel os hq10
                  replace ol := own_bel ol hq10
                  replace so := so.bel hq10
                  replace oB := own_bel oB hq10
                  have kq := Bx.new z9 26 #[.int .i64 0, .int .i64 0, .int .i64 0, .slice none 0 0, .int .i64 0, .slice none 0 0, .slice none 0 0]
                  have hl10 := hS.size
                  have hT := hS.trans (hq10.mono hS.size)
                  obtain ⟨z10, hy⟩ : ∃ x, z9.alloc (.cells #[.int .i64 0, .int .i64 0, .int .i64 0, .slice none 0 0, .int .i64 0, .slice none 0 0, .slice none 0 0] 26) = x := ⟨_, rfl⟩
                  rw [hy] at hT oh os ol so oB kq ⊢
                  obtain ⟨q, hbq⟩ : ∃ p, z9.heap.size = p := ⟨_, rfl⟩
                  rw [hbq] at kq hl10 ⊢
                  clear hy hbq hq10
                  have hSn := hT
                  clear hS
                  refine Onward.on hSn (fun hS => ?_)
                  try dsimp only at hS
                  clear hSn
                  try simp only [Act.put, List.getElem_toArray, List.getElem_cons_succ, List.getElem_cons_zero, List.setIfInBounds_toArray, List.set_cons_zero, List.set_cons_succ]
                  refine AnyG.one (i := 11) (by kernel_rfl) rfl rfl ?_
                  obtain ⟨x0, x1, x2, x3, x4, x5, x6, xf, xz⟩ := kq.seven
                  have hS0 := hS
                  go_simp
                  clear x0 x1 x2 x3 x4 x5 x6 xf xz
                  refine Onward.last rfl ?_
                  try simp only [Act.put, List.getElem_toArray, List.getElem_cons_succ, List.getElem_cons_zero, List.setIfInBounds_toArray, List.set_cons_zero, List.set_cons_succ]
                  refine AnyG.one (i := 12) (by kernel_rfl) rfl rfl ?_
                  go_simp
                  refine Onward.last rfl ?_
                  try simp only [Act.put, List.getElem_toArray, List.getElem_cons_succ, List.getElem_cons_zero, List.setIfInBounds_toArray, List.set_cons_zero, List.set_cons_succ]
                  refine AnyG.done (by kernel_rfl) ?_ _
                  go_simp
                  have fA := (((((((kq.set_ 0 (.int .i64 v.li)).set_ 1 (.int .i64 v.un)).set_ 2 (.int .i64 v.tr)).set_ 3 (.slice HA p.hn hc)).set_ 4 (.int .i64 v.le)).set_ 5 (.slice SA p.sn sc)).set_ 6 (.slice LA p.ln lc))
                  simp only [List.setIfInBounds_toArray, List.set_cons_zero, List.set_cons_succ] at fA
                  have fG := (grownF_trans (grownF_trans (grownF_trans (grownF_trans (grownF_trans (grownF_trans (grown_set z10 q 0 (.int .i64 v.li)) (grown_set _ q 1 (.int .i64 v.un))) (grown_set _ q 2 (.int .i64 v.tr))) (grown_set _ q 3 (.slice HA p.hn hc))) (grown_set _ q 4 (.int .i64 v.le))) (grown_set _ q 5 (.slice SA p.sn sc))) (grown_set _ q 6 (.slice LA p.ln lc)))
                  obtain ⟨Z, hZ⟩ : ∃ Z, (((((((z10.setCell ⟨q, 0, none⟩ (.int .i64 v.li)).setCell ⟨q, 1, none⟩ (.int .i64 v.un)).setCell ⟨q, 2, none⟩ (.int .i64 v.tr)).setCell ⟨q, 3, none⟩ (.slice HA p.hn hc)).setCell ⟨q, 4, none⟩ (.int .i64 v.le)).setCell ⟨q, 5, none⟩ (.slice SA p.sn sc)).setCell ⟨q, 6, none⟩ (.slice LA p.ln lc)) = Z := ⟨_, rfl⟩
                  rw [hZ] at fA fG ⊢
                  clear hZ
                  replace oh := oh.kept fG (.inr fun e => own_bx oh kq (by decide) e.symm)
                  replace os := os.kept fG (.inr fun e => own_bx os kq (by decide) e.symm)
                  replace ol := ol.kept fG (.inr fun e => own_bx ol kq (by decide) e.symm)
                  replace so := so.kept fG fun v n xs o => .inr fun e => own_bx o kq (by decide) e.symm
                  replace oB := oB.kept fG (.inr fun e => own_bx oB kq (by decide) e.symm)
                  have hBz := hS0.grown fG hS0.size (fun k e => by cases e; omega)
                  have hVo := voy_own HO.out.hl HO.out.sl' HO.out.ll oh os so ol
                  have hSB := own_ins oB HO.out.sl
                  go_wp2_with fail
                  go_meet
                  exact ⟨q, HA, hc, SA, sc, LA, lc, B, d, rfl, rfl, fA, hVo, hSB, hBz⟩
                · refine ⟨_, rfl, rfl, ?_⟩
                  go_simp
                  have hq10 := bel1 z4 (.cells #[.int .i64 0, .int .i64 0, .int .i64 0, .slice none 0 0, .int .i64 0, .slice none 0 0, .slice none 0 0] 26)
                  replace oh := own_bel oh hq10
                  replace os := own_bel os hq10
                  replace ol := own_bel ol hq10
                  replace so := so.bel hq10
                  have kq := Bx.new z4 26 #[.int .i64 0, .int .i64 0, .int .i64 0, .slice none 0 0, .int .i64 0, .slice none 0 0, .slice none 0 0]
                  have hl10 := hS.size
                  have hT := hS.trans (hq10.mono hS.size)
                  obtain ⟨z10, hy⟩ : ∃ x, z4.alloc (.cells #[.int .i64 0, .int .i64 0, .int .i64 0, .slice none 0 0, .int .i64 0, .slice none 0 0, .slice none 0 0] 26) = x := ⟨_, rfl⟩
                  rw [hy] at hT oh os ol so kq ⊢
                  obtain ⟨q, hbq⟩ : ∃ p, z4.heap.size = p := ⟨_, rfl⟩
                  rw [hbq] at kq hl10 ⊢
                  clear hy hbq hq10
                  have hSn := hT
                  clear hS
                  refine Onward.on hSn (fun hS => ?_)
                  try dsimp only at hS
                  clear hSn
                  try simp only [Act.put, List.getElem_toArray, List.getElem_cons_succ, List.getElem_cons_zero, List.setIfInBounds_toArray, List.set_cons_zero, List.set_cons_succ]
                  refine AnyG.one (i := 9) (by kernel_rfl) rfl rfl ?_
                  go_simp
                  refine (ints20_any A n c s _ (by have := HO.out.n20; omega) HO.out.sl (hPU.call hS).hS).mono ?_
                  rintro e9 z9 ⟨⟨B, d, rfl, oB⟩, hq9⟩
                  replace kq := kq.call hq9
                  replace oh := own_bel oh hq9
                  replace os := own_bel os hq9
                  replace ol := own_bel ol hq9
                  replace so := so.bel hq9
                  have hSn := (hS.trans (hq9.mono hS.size))
                  clear hS
                  refine Onward.on hSn (fun hS => ?_)
                  try dsimp only at hS
                  clear hSn
                  try simp only [Act.put, List.getElem_toArray, List.getElem_cons_succ, List.getElem_cons_zero, List.setIfInBounds_toArray, List.set_cons_zero, List.set_cons_succ]
                  refine AnyG.one (i := 11) (by kernel_rfl) rfl rfl ?_
                  obtain ⟨x0, x1, x2, x3, x4, x5, x6, xf, xz⟩ := kq.seven
                  have hS0 := hS
                  go_simp
                  clear x0 x1 x2 x3 x4 x5 x6 xf xz
                  refine Onward.last rfl ?_
                  try simp only [Act.put, List.getElem_toArray, List.getElem_cons_succ, List.getElem_cons_zero, List.setIfInBounds_toArray, List.set_cons_zero, List.set_cons_succ]
                  refine AnyG.one (i := 12) (by kernel_rfl) rfl rfl ?_
                  go_simp
                  refine Onward.last rfl ?_
                  try simp only [Act.put, List.getElem_toArray, List.getElem_cons_succ, List.getElem_cons_zero, List.setIfInBounds_toArray, List.set_cons_zero, List.set_cons_succ]
                  refine AnyG.done (by kernel_rfl) ?_ _
                  go_simp
                  have fA := (((((((kq.set_ 0 (.int .i64 v.li)).set_ 1 (.int .i64 v.un)).set_ 2 (.int .i64 v.tr)).set_ 3 (.slice HA p.hn hc)).set_ 4 (.int .i64 v.le)).set_ 5 (.slice SA p.sn sc)).set_ 6 (.slice LA p.ln lc))
                  simp only [List.setIfInBounds_toArray, List.set_cons_zero, List.set_cons_succ] at fA
                  have fG := (grownF_trans (grownF_trans (grownF_trans (grownF_trans (grownF_trans (grownF_trans (grown_set z9 q 0 (.int .i64 v.li)) (grown_set _ q 1 (.int .i64 v.un))) (grown_set _ q 2 (.int .i64 v.tr))) (grown_set _ q 3 (.slice HA p.hn hc))) (grown_set _ q 4 (.int .i64 v.le))) (grown_set _ q 5 (.slice SA p.sn sc))) (grown_set _ q 6 (.slice LA p.ln lc)))
                  obtain ⟨Z, hZ⟩ : ∃ Z, (((((((z9.setCell ⟨q, 0, none⟩ (.int .i64 v.li)).setCell ⟨q, 1, none⟩ (.int .i64 v.un)).setCell ⟨q, 2, none⟩ (.int .i64 v.tr)).setCell ⟨q, 3, none⟩ (.slice HA p.hn hc)).setCell ⟨q, 4, none⟩ (.int .i64 v.le)).setCell ⟨q, 5, none⟩ (.slice SA p.sn sc)).setCell ⟨q, 6, none⟩ (.slice LA p.ln lc)) = Z := ⟨_, rfl⟩
                  rw [hZ] at fA fG ⊢
                  clear hZ
                  replace oh := oh.kept fG (.inr fun e => own_bx oh kq (by decide) e.symm)
                  replace os := os.kept fG (.inr fun e => own_bx os kq (by decide) e.symm)
                  replace ol := ol.kept fG (.inr fun e => own_bx ol kq (by decide) e.symm)
                  replace so := so.kept fG fun v n xs o => .inr fun e => own_bx o kq (by decide) e.symm
                  replace oB := oB.kept fG (.inr fun e => own_bx oB kq (by decide) e.symm)
                  have hBz := hS0.grown fG hS0.size (fun k e => by cases e; omega)
                  have hVo := voy_own HO.out.hl HO.out.sl' HO.out.ll oh os so ol
                  have hSB := own_ins oB HO.out.sl
                  go_wp2_with fail
                  go_meet
                  exact ⟨q, HA, hc, SA, sc, LA, lc, B, d, rfl, rfl, fA, hVo, hSB, hBz⟩
              · refine ⟨_, rfl, rfl, ?_⟩
                go_simp
                have hq10 := bel1 y0 (.cells #[.int .i64 0, .int .i64 0, .int .i64 0, .slice none 0 0, .int .i64 0, .slice none 0 0, .slice none 0 0] 26)
                have kq := Bx.new y0 26 #[.int .i64 0, .int .i64 0, .int .i64 0, .slice none 0 0, .int .i64 0, .slice none 0 0, .slice none 0 0]
                have hl10 := hS.size
                have hT := hS.trans (hq10.mono hS.size)
                obtain ⟨z10, hy⟩ : ∃ x, y0.alloc (.cells #[.int .i64 0, .int .i64 0, .int .i64 0, .slice none 0 0, .int .i64 0, .slice none 0 0, .slice none 0 0] 26) = x := ⟨_, rfl⟩
                rw [hy] at hT kq ⊢
                obtain ⟨q, hbq⟩ : ∃ p, y0.heap.size = p := ⟨_, rfl⟩
                rw [hbq] at kq hl10 ⊢
                clear hy hbq hq10
                have hSn := hT
                clear hS
                refine Onward.on hSn (fun hS => ?_)
                try dsimp only at hS
                clear hSn
                try simp only [Act.put, List.getElem_toArray, List.getElem_cons_succ, List.getElem_cons_zero, List.setIfInBounds_toArray, List.set_cons_zero, List.set_cons_succ]
                refine AnyG.one (i := 4) (by kernel_rfl) rfl rfl ?_
                go_simp
                refine (copyVoyage_gen v p _ HO.out.slim (hPU.call hS).hV).mono ?_
                rintro e4 z4 ⟨HA, hc, SA, sc, LA, lc, rs, rfl, oh, os, so, -, ol, hq4⟩
                replace kq := kq.call hq4
                have hSn := (hS.trans (hq4.mono hS.size))
                clear hS
                refine Onward.on hSn (fun hS => ?_)
                try dsimp only at hS
                clear hSn
                try simp only [Act.put, List.getElem_toArray, List.getElem_cons_succ, List.getElem_cons_zero, List.setIfInBounds_toArray, List.set_cons_zero, List.set_cons_succ]
                refine AnyG.one (i := 9) (by kernel_rfl) rfl rfl ?_
                go_simp
                refine (ints20_any A n c s _ (by have := HO.out.n20; omega) HO.out.sl (hPU.call hS).hS).mono ?_
                rintro e9 z9 ⟨⟨B, d, rfl, oB⟩, hq9⟩
                replace kq := kq.call hq9
                replace oh := own_bel oh hq9
                replace os := own_bel os hq9
                replace ol := own_bel ol hq9
                replace so := so.bel hq9
                have hSn := (hS.trans (hq9.mono hS.size))
                clear hS
                refine Onward.on hSn (fun hS => ?_)
                try dsimp only at hS
                clear hSn
                try simp only [Act.put, List.getElem_toArray, List.getElem_cons_succ, List.getElem_cons_zero, List.setIfInBounds_toArray, List.set_cons_zero, List.set_cons_succ]
                refine AnyG.one (i := 11) (by kernel_rfl) rfl rfl ?_
                obtain ⟨x0, x1, x2, x3, x4, x5, x6, xf, xz⟩ := kq.seven
                have hS0 := hS
                go_simp
                clear x0 x1 x2 x3 x4 x5 x6 xf xz
                refine Onward.last rfl ?_
                try simp only [Act.put, List.getElem_toArray, List.getElem_cons_succ, List.getElem_cons_zero, List.setIfInBounds_toArray, List.set_cons_zero, List.set_cons_succ]
                refine AnyG.one (i := 12) (by kernel_rfl) rfl rfl ?_
                go_simp
                refine Onward.last rfl ?_
                try simp only [Act.put, List.getElem_toArray, List.getElem_cons_succ, List.getElem_cons_zero, List.setIfInBounds_toArray, List.set_cons_zero, List.set_cons_succ]
                refine AnyG.done (by kernel_rfl) ?_ _
                go_simp
                have fA := (((((((kq.set_ 0 (.int .i64 v.li)).set_ 1 (.int .i64 v.un)).set_ 2 (.int .i64 v.tr)).set_ 3 (.slice HA p.hn hc)).set_ 4 (.int .i64 v.le)).set_ 5 (.slice SA p.sn sc)).set_ 6 (.slice LA p.ln lc))
                simp only [List.setIfInBounds_toArray, List.set_cons_zero, List.set_cons_succ] at fA
                have fG := (grownF_trans (grownF_trans (grownF_trans (grownF_trans (grownF_trans (grownF_trans (grown_set z9 q 0 (.int .i64 v.li)) (grown_set _ q 1 (.int .i64 v.un))) (grown_set _ q 2 (.int .i64 v.tr))) (grown_set _ q 3 (.slice HA p.hn hc))) (grown_set _ q 4 (.int .i64 v.le))) (grown_set _ q 5 (.slice SA p.sn sc))) (grown_set _ q 6 (.slice LA p.ln lc)))
                obtain ⟨Z, hZ⟩ : ∃ Z, (((((((z9.setCell ⟨q, 0, none⟩ (.int .i64 v.li)).setCell ⟨q, 1, none⟩ (.int .i64 v.un)).setCell ⟨q, 2, none⟩ (.int .i64 v.tr)).setCell ⟨q, 3, none⟩ (.slice HA p.hn hc)).setCell ⟨q, 4, none⟩ (.int .i64 v.le)).setCell ⟨q, 5, none⟩ (.slice SA p.sn sc)).setCell ⟨q, 6, none⟩ (.slice LA p.ln lc)) = Z := ⟨_, rfl⟩
                rw [hZ] at fA fG ⊢
                clear hZ
                replace oh := oh.kept fG (.inr fun e => own_bx oh kq (by decide) e.symm)
                replace os := os.kept fG (.inr fun e => own_bx os kq (by decide) e.symm)
                replace ol := ol.kept fG (.inr fun e => own_bx ol kq (by decide) e.symm)
                replace so := so.kept fG fun v n xs o => .inr fun e => own_bx o kq (by decide) e.symm
                replace oB := oB.kept fG (.inr fun e => own_bx oB kq (by decide) e.symm)
                have hBz := hS0.grown fG hS0.size (fun k e => by cases e; omega)
                have hVo := voy_own HO.out.hl HO.out.sl' HO.out.ll oh os so ol
                have hSB := own_ins oB HO.out.sl
                go_wp2_with fail
                go_meet
                exact ⟨q, HA, hc, SA, sc, LA, lc, B, d, rfl, rfl, fA, hVo, hSB, hBz⟩
          case rest =>
            obtain ⟨q, HA, hc, SA, sc, LA, lc, B, d, rfl, rfl, kq, hVo, hSB, hBU⟩ := hcut
            replace hBW := hBW.trans (hBU.mono hBW.size)
            replace hPU := hPU.call hBU
            clear hBU
            obtain ⟨U, hU⟩ : ∃ U, U = wc := ⟨_, rfl⟩
            subst hU
            obtain ⟨a0, a1, a2, a3, ec, hE⟩ := drafts_tup (decide (ckSt v s = 0)) (deepB v (abd v.ls s) true) (deepB v (abd v.ls s) false) (deepS v (abd v.ls s) true) (deepS v (abd v.ls s) false) (ckSt v s)
            simp only [decide_eq_true_eq] at hE
            have HE := Lib.hid hE
            clear hE
            obtain ⟨lv, a4, a5, ed, hE⟩ := level_tup (decide (ckSt v s = 0)) (lvlOk v (tiltP v.hs (abd v.ls s))) (tiltP v.hs (abd v.ls s)).1 (tiltP v.hs (abd v.ls s)).2 (ckSt v s)
            simp only [decide_eq_true_eq] at hE
            have HE2 := Lib.hid hE
            clear hE
            go_upto_region 14 with fail
            go_cut [20, 21, 22] from 72 to 196 (fun va vb vc x => ∃ (qa qb : Nat), va = .pointer (some ⟨qa, 0, none⟩) ∧ vb = .pointer (some ⟨qb, 0, none⟩) ∧ vc = .int .i64 ec ∧ Bx x qa 41 #[.int .i64 a0, .int .i64 a1] ∧ Bx x qb 41 #[.int .i64 a2, .int .i64 a3] ∧ Below U.heap.size U x)
            case first =>
              obtain ⟨x0, x1, x2, x3, x4, x5, x6, xf, xz⟩ := kq.seven
              go_wp2_with (first
                | (go_at_call 23; refine (drafts_any v ⟨HA, p.hn, hc, SA, p.sn, sc, LA, p.ln, lc⟩ B n d s _ HO.out.fitq HO.out.lf hVo hSB HO.out.sl (by have := HO.out.n20; omega)).mono ?_; rintro e z1 ⟨rfl, hq1⟩; rw [HE.out])
                | fail)
              clear x0 x1 x2 x3 x4 x5 x6 xf xz
              go_meet
              refine ⟨_, _, rfl, rfl, rfl, ?_, ?_, ?_⟩
              · exact (Bx.new _ _ _).alloc _
              · exact Bx.at _ _ _ (by simp)
              · exact (hq1.alloc hq1.size _).alloc (by have := hq1.size; simp; omega) _
            case rest =>
              obtain ⟨q20, q21, rfl, rfl, rfl, k20, k21, hBU⟩ := hcut
              replace hBW := hBW.trans (hBU.mono hBW.size)
              replace hPU := hPU.call hBU
              replace kq := kq.call hBU
              replace hVo := hVo.call hBU
              replace hSB := (hSB.below hBU).more hBU.size
              clear hBU
              obtain ⟨U, hU⟩ : ∃ U, U = wc := ⟨_, rfl⟩
              subst hU
              go_upto_region 15 with fail
              go_cut [23, 24, 25] from 72 to 196 (fun va vb vc x => ∃ (qa qb : Nat), va = .pointer (some ⟨qa, 0, none⟩) ∧ vb = .pointer (some ⟨qb, 0, none⟩) ∧ vc = .int .i64 ec ∧ Bx x qa 41 #[.int .i64 a0, .int .i64 a1] ∧ Bx x qb 41 #[.int .i64 a2, .int .i64 a3] ∧ Below U.heap.size U x)
              case first =>
                as_aux_lemma =>
                  refine AnyG.startC (by kernel_rfl) ?_
                  refine AnyG.takeP (i := 0) (v := ?_) rfl (by kernel_rfl) (fun _ _ _ h => h) rfl ?_ ?_
                  rotate_left
                  · (intro w'; go_simp; try with_reducible rfl)
                  try simp only [Act.put, List.getElem_toArray, List.getElem_cons_succ, List.getElem_cons_zero, List.setIfInBounds_toArray, List.set_cons_zero, List.set_cons_succ]
                  refine AnyG.takeP (i := 1) (v := ?_) rfl (by kernel_rfl) (fun _ _ _ h => h) rfl ?_ ?_
                  rotate_left
                  · (intro w'; go_simp; try with_reducible rfl)
                  try simp only [Act.put, List.getElem_toArray, List.getElem_cons_succ, List.getElem_cons_zero, List.setIfInBounds_toArray, List.set_cons_zero, List.set_cons_succ]
                  refine AnyG.takeP (i := 2) (v := ?_) rfl (by kernel_rfl) (fun _ _ _ h => h) rfl ?_ ?_
                  rotate_left
                  · (intro w'; go_simp; try with_reducible rfl)
                  try simp only [Act.put, List.getElem_toArray, List.getElem_cons_succ, List.getElem_cons_zero, List.setIfInBounds_toArray, List.set_cons_zero, List.set_cons_succ]
                  refine AnyG.takeP (i := 4) (v := ?_) rfl (by kernel_rfl) (fun _ _ _ h => h) rfl ?_ ?_
                  rotate_left
                  · (intro w'; go_simp; try with_reducible rfl)
                  try simp only [Act.put, List.getElem_toArray, List.getElem_cons_succ, List.getElem_cons_zero, List.setIfInBounds_toArray, List.set_cons_zero, List.set_cons_succ]
                  refine AnyG.takeP (i := 5) (v := ?_) rfl (by kernel_rfl) (fun _ _ _ h => h) rfl ?_ ?_
                  rotate_left
                  · (intro w'; go_simp; try with_reducible rfl)
                  try simp only [Act.put, List.getElem_toArray, List.getElem_cons_succ, List.getElem_cons_zero, List.setIfInBounds_toArray, List.set_cons_zero, List.set_cons_succ]
                  refine AnyG.takeP (i := 6) (v := ?_) rfl (by kernel_rfl) (fun _ _ _ h => h) rfl ?_ ?_
                  rotate_left
                  · (intro w'; go_simp; try with_reducible rfl)
                  try simp only [Act.put, List.getElem_toArray, List.getElem_cons_succ, List.getElem_cons_zero, List.setIfInBounds_toArray, List.set_cons_zero, List.set_cons_succ]
                  refine AnyG.enter (fun w' : World => Below U.heap.size U w') (fun i => i != 17) ?_
                  have hS : (fun w' : World => Below U.heap.size U w') (U.drew) := (Below.refl _ _).drew
                  try dsimp only at hS
                  obtain ⟨y0, hy0⟩ : ∃ y, U.drew = y := ⟨_, rfl⟩
                  rw [hy0] at hS ⊢
                  clear hy0
                  refine AnyG.takeC (i := 3) (v := ?_) rfl (by kernel_rfl) (fun _ _ _ h => h) rfl ?_ hS ?_
                  rotate_left
                  · (intro w' hSw; (try dsimp only at hSw); have hp := hPU.call hSw; have c0 := hp.c0; have c1 := hp.c1; have c2 := hp.c2; have c3 := hp.c3; have c4 := hp.c4; have c5 := hp.c5; have c6 := hp.c6; go_simp; try with_reducible rfl)
                  try simp only [Act.put, List.getElem_toArray, List.getElem_cons_succ, List.getElem_cons_zero, List.setIfInBounds_toArray, List.set_cons_zero, List.set_cons_succ]
                  refine AnyG.takeC (i := 7) (v := ?_) rfl (by kernel_rfl) (fun _ _ _ h => h) rfl ?_ hS ?_
                  rotate_left
                  · (intro w' hSw; (try dsimp only at hSw); have b0 := (hPU.call hSw).b0; go_simp; try with_reducible rfl)
                  try simp only [Act.put, List.getElem_toArray, List.getElem_cons_succ, List.getElem_cons_zero, List.setIfInBounds_toArray, List.set_cons_zero, List.set_cons_succ]
                  refine AnyG.all (rs := [8, 13, 14]) (by kernel_rfl) (by simp) ?_
                  intro ii hii
                  simp only [List.mem_cons, List.not_mem_nil, or_false] at hii
                  rcases hii with rfl | rfl | rfl
                  · refine ⟨_, rfl, rfl, ?_⟩
                    go_simp
                    refine (refDrafts_any v p A n c s _ HO.out.fit HO.out.lf (hPU.call hS).hV (hPU.call hS).hS HO.out.sl (by have := HO.out.n20; omega)).mono ?_
                    rintro e8 z8 ⟨rfl, hq8⟩
                    rw [HE.out]
                    have hSn := (hS.trans (hq8.mono hS.size))
                    clear hS
                    refine Onward.on hSn (fun hS => ?_)
                    try dsimp only at hS
                    clear hSn
                    try simp only [Act.put, List.getElem_toArray, List.getElem_cons_succ, List.getElem_cons_zero, List.setIfInBounds_toArray, List.set_cons_zero, List.set_cons_succ]
                    refine AnyG.takeC (i := 9) (v := ?_) rfl (by kernel_rfl) (fun _ _ _ h => h) rfl ?_ hS ?_
                    rotate_left
                    · (intro w' hSw; (try dsimp only at hSw); go_simp; try with_reducible rfl)
                    try simp only [Act.put, List.getElem_toArray, List.getElem_cons_succ, List.getElem_cons_zero, List.setIfInBounds_toArray, List.set_cons_zero, List.set_cons_succ]
                    refine AnyG.takeC (i := 10) (v := ?_) rfl (by kernel_rfl) (fun _ _ _ h => h) rfl ?_ hS ?_
                    rotate_left
                    · (intro w' hSw; (try dsimp only at hSw); go_simp; try with_reducible rfl)
                    try simp only [Act.put, List.getElem_toArray, List.getElem_cons_succ, List.getElem_cons_zero, List.setIfInBounds_toArray, List.set_cons_zero, List.set_cons_succ]
                    refine AnyG.takeC (i := 11) (v := ?_) rfl (by kernel_rfl) (fun _ _ _ h => h) rfl ?_ hS ?_
                    rotate_left
                    · (intro w' hSw; (try dsimp only at hSw); go_simp; try with_reducible rfl)
                    try simp only [Act.put, List.getElem_toArray, List.getElem_cons_succ, List.getElem_cons_zero, List.setIfInBounds_toArray, List.set_cons_zero, List.set_cons_succ]
                    refine AnyG.takeC (i := 12) (v := ?_) rfl (by kernel_rfl) (fun _ _ _ h => h) rfl ?_ hS ?_
                    rotate_left
                    · (intro w' hSw; (try dsimp only at hSw); go_simp; try with_reducible rfl)
                    try simp only [Act.put, List.getElem_toArray, List.getElem_cons_succ, List.getElem_cons_zero, List.setIfInBounds_toArray, List.set_cons_zero, List.set_cons_succ]
                    refine AnyG.all (rs := [13, 14]) (by kernel_rfl) (by simp) ?_
                    intro ii hii
                    simp only [List.mem_cons, List.not_mem_nil, or_false] at hii
                    rcases hii with rfl | rfl
                    · refine ⟨_, rfl, rfl, ?_⟩
                      go_simp
                      have hqk := bel1 z8 (.cells #[.int .i64 0, .int .i64 0] 41)
                      have k13 := Bx.new z8 41 #[.int .i64 0, .int .i64 0]
                      have hlk13 := hS.size
                      have hT := hS.trans (hqk.mono hS.size)
                      obtain ⟨z13, hy⟩ : ∃ x, z8.alloc (.cells #[.int .i64 0, .int .i64 0] 41) = x := ⟨_, rfl⟩
                      rw [hy] at hT k13 ⊢
                      obtain ⟨qk13, hbq⟩ : ∃ p, z8.heap.size = p := ⟨_, rfl⟩
                      rw [hbq] at k13 hlk13 ⊢
                      have ltk13 := k13.lt
                      clear hy hbq hqk
                      have hSn := hT
                      clear hS
                      refine Onward.on hSn (fun hS => ?_)
                      try dsimp only at hS
                      clear hSn
                      try simp only [Act.put, List.getElem_toArray, List.getElem_cons_succ, List.getElem_cons_zero, List.setIfInBounds_toArray, List.set_cons_zero, List.set_cons_succ]
                      refine AnyG.one (i := 14) (by kernel_rfl) rfl rfl ?_
                      go_simp
                      have hqk := bel1 z13 (.cells #[.int .i64 0, .int .i64 0] 41)
                      replace k13 := k13.call hqk
                      have k14 := Bx.new z13 41 #[.int .i64 0, .int .i64 0]
                      have hlk14 := hS.size
                      have hT := hS.trans (hqk.mono hS.size)
                      have hne : qk13 ≠ z13.heap.size := by have := ltk13; omega
                      obtain ⟨z14, hy⟩ : ∃ x, z13.alloc (.cells #[.int .i64 0, .int .i64 0] 41) = x := ⟨_, rfl⟩
                      rw [hy] at hT k13 k14 ⊢
                      obtain ⟨qk14, hbq⟩ : ∃ p, z13.heap.size = p := ⟨_, rfl⟩
                      rw [hbq] at k14 hlk14 hne ⊢
                      have ltk14 := k14.lt
                      clear hy hbq hqk
                      have hSn := hT
                      clear hS
                      refine Onward.on hSn (fun hS => ?_)
                      try dsimp only at hS
                      clear hSn
                      try simp only [Act.put, List.getElem_toArray, List.getElem_cons_succ, List.getElem_cons_zero, List.setIfInBounds_toArray, List.set_cons_zero, List.set_cons_succ]
                      refine AnyG.one (i := 15) (by kernel_rfl) rfl rfl ?_
                      obtain ⟨x0, x1, xf, xz⟩ := k13.two'
                      have hS0 := hS
                      go_simp
                      clear x0 x1 xf xz
                      have hSn := ((hS.setCell (p := ⟨qk13, 0, none⟩) hlk13 (.int .i64 a0)).setCell (p := ⟨qk13, 1, none⟩) hlk13 (.int .i64 a1))
                      clear hS
                      refine Onward.on hSn (fun hS => ?_)
                      try dsimp only at hS
                      clear hSn
                      try simp only [Act.put, List.getElem_toArray, List.getElem_cons_succ, List.getElem_cons_zero, List.setIfInBounds_toArray, List.set_cons_zero, List.set_cons_succ]
                      refine AnyG.one (i := 16) (by kernel_rfl) rfl rfl ?_
                      have k14x := (k14.far (p := ⟨qk13, 0, none⟩) (by simp; omega) (.int .i64 a0)).far (p := ⟨qk13, 1, none⟩) (by simp; omega) (.int .i64 a1)
                      obtain ⟨x0, x1, xf, xz⟩ := k14x.two'
                      go_simp
                      clear x0 x1 xf xz
                      have hSn := ((hS.setCell (p := ⟨qk14, 0, none⟩) hlk14 (.int .i64 a2)).setCell (p := ⟨qk14, 1, none⟩) hlk14 (.int .i64 a3))
                      clear hS
                      refine Onward.on hSn (fun hS => ?_)
                      try dsimp only at hS
                      clear hSn
                      try simp only [Act.put, List.getElem_toArray, List.getElem_cons_succ, List.getElem_cons_zero, List.setIfInBounds_toArray, List.set_cons_zero, List.set_cons_succ]
                      refine AnyG.one (i := 17) (by kernel_rfl) rfl rfl ?_
                      go_simp
                      refine Onward.last rfl ?_
                      try simp only [Act.put, List.getElem_toArray, List.getElem_cons_succ, List.getElem_cons_zero, List.setIfInBounds_toArray, List.set_cons_zero, List.set_cons_succ]
                      refine AnyG.done (by kernel_rfl) ?_ _
                      have f14 := (((k14.far (p := ⟨qk13, 0, none⟩) (by simp; omega) (.int .i64 a0)).far (p := ⟨qk13, 1, none⟩) (by simp; omega) (.int .i64 a1)).set_ 0 (.int .i64 a2)).set_ 1 (.int .i64 a3)
                      have f13 := (((k13.set_ 0 (.int .i64 a0)).set_ 1 (.int .i64 a1)).far (p := ⟨qk14, 0, none⟩) (by simp; omega) (.int .i64 a2)).far (p := ⟨qk14, 1, none⟩) (by simp; omega) (.int .i64 a3)
                      simp only [List.setIfInBounds_toArray, List.set_cons_zero, List.set_cons_succ] at f13 f14
                      have hBz := (((hS0.setCell (p := ⟨qk13, 0, none⟩) hlk13 (.int .i64 a0)).setCell (p := ⟨qk13, 1, none⟩) hlk13 (.int .i64 a1)).setCell (p := ⟨qk14, 0, none⟩) hlk14 (.int .i64 a2)).setCell (p := ⟨qk14, 1, none⟩) hlk14 (.int .i64 a3)
                      go_simp
                      go_wp2_with fail
                      go_meet
                      exact ⟨qk13, qk14, rfl, rfl, rfl, f13, f14, hBz⟩
                    · refine ⟨_, rfl, rfl, ?_⟩
                      go_simp
                      have hqk := bel1 z8 (.cells #[.int .i64 0, .int .i64 0] 41)
                      have k14 := Bx.new z8 41 #[.int .i64 0, .int .i64 0]
                      have hlk14 := hS.size
                      have hT := hS.trans (hqk.mono hS.size)
                      obtain ⟨z14, hy⟩ : ∃ x, z8.alloc (.cells #[.int .i64 0, .int .i64 0] 41) = x := ⟨_, rfl⟩
                      rw [hy] at hT k14 ⊢
                      obtain ⟨qk14, hbq⟩ : ∃ p, z8.heap.size = p := ⟨_, rfl⟩
                      rw [hbq] at k14 hlk14 ⊢
                      have ltk14 := k14.lt
                      clear hy hbq hqk
                      have hSn := hT
                      clear hS
                      refine Onward.on hSn (fun hS => ?_)
                      try dsimp only at hS
                      clear hSn
                      try simp only [Act.put, List.getElem_toArray, List.getElem_cons_succ, List.getElem_cons_zero, List.setIfInBounds_toArray, List.set_cons_zero, List.set_cons_succ]
                      refine AnyG.one (i := 13) (by kernel_rfl) rfl rfl ?_
                      go_simp
                      have hqk := bel1 z14 (.cells #[.int .i64 0, .int .i64 0] 41)
                      replace k14 := k14.call hqk
                      have k13 := Bx.new z14 41 #[.int .i64 0, .int .i64 0]
                      have hlk13 := hS.size
                      have hT := hS.trans (hqk.mono hS.size)
                      have hne : qk14 ≠ z14.heap.size := by have := ltk14; omega
                      obtain ⟨z13, hy⟩ : ∃ x, z14.alloc (.cells #[.int .i64 0, .int .i64 0] 41) = x := ⟨_, rfl⟩
                      rw [hy] at hT k14 k13 ⊢
                      obtain ⟨qk13, hbq⟩ : ∃ p, z14.heap.size = p := ⟨_, rfl⟩
                      rw [hbq] at k13 hlk13 hne ⊢
                      have ltk13 := k13.lt
                      clear hy hbq hqk
                      have hSn := hT
                      clear hS
                      refine Onward.on hSn (fun hS => ?_)
                      try dsimp only at hS
                      clear hSn
                      try simp only [Act.put, List.getElem_toArray, List.getElem_cons_succ, List.getElem_cons_zero, List.setIfInBounds_toArray, List.set_cons_zero, List.set_cons_succ]
                      refine AnyG.one (i := 15) (by kernel_rfl) rfl rfl ?_
                      obtain ⟨x0, x1, xf, xz⟩ := k13.two'
                      have hS0 := hS
                      go_simp
                      clear x0 x1 xf xz
                      have hSn := ((hS.setCell (p := ⟨qk13, 0, none⟩) hlk13 (.int .i64 a0)).setCell (p := ⟨qk13, 1, none⟩) hlk13 (.int .i64 a1))
                      clear hS
                      refine Onward.on hSn (fun hS => ?_)
                      try dsimp only at hS
                      clear hSn
                      try simp only [Act.put, List.getElem_toArray, List.getElem_cons_succ, List.getElem_cons_zero, List.setIfInBounds_toArray, List.set_cons_zero, List.set_cons_succ]
                      refine AnyG.one (i := 16) (by kernel_rfl) rfl rfl ?_
                      have k14x := (k14.far (p := ⟨qk13, 0, none⟩) (by simp; omega) (.int .i64 a0)).far (p := ⟨qk13, 1, none⟩) (by simp; omega) (.int .i64 a1)
                      obtain ⟨x0, x1, xf, xz⟩ := k14x.two'
                      go_simp
                      clear x0 x1 xf xz
                      have hSn := ((hS.setCell (p := ⟨qk14, 0, none⟩) hlk14 (.int .i64 a2)).setCell (p := ⟨qk14, 1, none⟩) hlk14 (.int .i64 a3))
                      clear hS
                      refine Onward.on hSn (fun hS => ?_)
                      try dsimp only at hS
                      clear hSn
                      try simp only [Act.put, List.getElem_toArray, List.getElem_cons_succ, List.getElem_cons_zero, List.setIfInBounds_toArray, List.set_cons_zero, List.set_cons_succ]
                      refine AnyG.one (i := 17) (by kernel_rfl) rfl rfl ?_
                      go_simp
                      refine Onward.last rfl ?_
                      try simp only [Act.put, List.getElem_toArray, List.getElem_cons_succ, List.getElem_cons_zero, List.setIfInBounds_toArray, List.set_cons_zero, List.set_cons_succ]
                      refine AnyG.done (by kernel_rfl) ?_ _
                      have f14 := (((k14.far (p := ⟨qk13, 0, none⟩) (by simp; omega) (.int .i64 a0)).far (p := ⟨qk13, 1, none⟩) (by simp; omega) (.int .i64 a1)).set_ 0 (.int .i64 a2)).set_ 1 (.int .i64 a3)
                      have f13 := (((k13.set_ 0 (.int .i64 a0)).set_ 1 (.int .i64 a1)).far (p := ⟨qk14, 0, none⟩) (by simp; omega) (.int .i64 a2)).far (p := ⟨qk14, 1, none⟩) (by simp; omega) (.int .i64 a3)
                      simp only [List.setIfInBounds_toArray, List.set_cons_zero, List.set_cons_succ] at f13 f14
                      have hBz := (((hS0.setCell (p := ⟨qk13, 0, none⟩) hlk13 (.int .i64 a0)).setCell (p := ⟨qk13, 1, none⟩) hlk13 (.int .i64 a1)).setCell (p := ⟨qk14, 0, none⟩) hlk14 (.int .i64 a2)).setCell (p := ⟨qk14, 1, none⟩) hlk14 (.int .i64 a3)
                      go_simp
                      go_wp2_with fail
                      go_meet
                      exact ⟨qk13, qk14, rfl, rfl, rfl, f13, f14, hBz⟩
                  · refine ⟨_, rfl, rfl, ?_⟩
                    go_simp
                    have hqk := bel1 y0 (.cells #[.int .i64 0, .int .i64 0] 41)
                    have k13 := Bx.new y0 41 #[.int .i64 0, .int .i64 0]
                    have hlk13 := hS.size
                    have hT := hS.trans (hqk.mono hS.size)
                    obtain ⟨z13, hy⟩ : ∃ x, y0.alloc (.cells #[.int .i64 0, .int .i64 0] 41) = x := ⟨_, rfl⟩
                    rw [hy] at hT k13 ⊢
                    obtain ⟨qk13, hbq⟩ : ∃ p, y0.heap.size = p := ⟨_, rfl⟩
                    rw [hbq] at k13 hlk13 ⊢
                    have ltk13 := k13.lt
                    clear hy hbq hqk
                    have hSn := hT
                    clear hS
                    refine Onward.on hSn (fun hS => ?_)
                    try dsimp only at hS
                    clear hSn
                    try simp only [Act.put, List.getElem_toArray, List.getElem_cons_succ, List.getElem_cons_zero, List.setIfInBounds_toArray, List.set_cons_zero, List.set_cons_succ]
                    refine AnyG.all (rs := [8, 14]) (by kernel_rfl) (by simp) ?_
                    intro ii hii
                    simp only [List.mem_cons, List.not_mem_nil, or_false] at hii
                    rcases hii with rfl | rfl
                    · refine ⟨_, rfl, rfl, ?_⟩
                      go_simp
                      refine (refDrafts_any v p A n c s _ HO.out.fit HO.out.lf (hPU.call hS).hV (hPU.call hS).hS HO.out.sl (by have := HO.out.n20; omega)).mono ?_
                      rintro e8 z8 ⟨rfl, hq8⟩
                      rw [HE.out]
                      replace k13 := k13.call hq8
                      have ltk13 := k13.lt
                      have hSn := (hS.trans (hq8.mono hS.size))
                      clear hS
                      refine Onward.on hSn (fun hS => ?_)
                      try dsimp only at hS
                      clear hSn
                      try simp only [Act.put, List.getElem_toArray, List.getElem_cons_succ, List.getElem_cons_zero, List.setIfInBounds_toArray, List.set_cons_zero, List.set_cons_succ]
                      refine AnyG.takeC (i := 9) (v := ?_) rfl (by kernel_rfl) (fun _ _ _ h => h) rfl ?_ hS ?_
                      rotate_left
                      · (intro w' hSw; (try dsimp only at hSw); go_simp; try with_reducible rfl)
                      try simp only [Act.put, List.getElem_toArray, List.getElem_cons_succ, List.getElem_cons_zero, List.setIfInBounds_toArray, List.set_cons_zero, List.set_cons_succ]
                      refine AnyG.takeC (i := 10) (v := ?_) rfl (by kernel_rfl) (fun _ _ _ h => h) rfl ?_ hS ?_
                      rotate_left
                      · (intro w' hSw; (try dsimp only at hSw); go_simp; try with_reducible rfl)
                      try simp only [Act.put, List.getElem_toArray, List.getElem_cons_succ, List.getElem_cons_zero, List.setIfInBounds_toArray, List.set_cons_zero, List.set_cons_succ]
                      refine AnyG.takeC (i := 11) (v := ?_) rfl (by kernel_rfl) (fun _ _ _ h => h) rfl ?_ hS ?_
                      rotate_left
                      · (intro w' hSw; (try dsimp only at hSw); go_simp; try with_reducible rfl)
                      try simp only [Act.put, List.getElem_toArray, List.getElem_cons_succ, List.getElem_cons_zero, List.setIfInBounds_toArray, List.set_cons_zero, List.set_cons_succ]
                      refine AnyG.takeC (i := 12) (v := ?_) rfl (by kernel_rfl) (fun _ _ _ h => h) rfl ?_ hS ?_
                      rotate_left
                      · (intro w' hSw; (try dsimp only at hSw); go_simp; try with_reducible rfl)
                      try simp only [Act.put, List.getElem_toArray, List.getElem_cons_succ, List.getElem_cons_zero, List.setIfInBounds_toArray, List.set_cons_zero, List.set_cons_succ]
                      refine AnyG.one (i := 14) (by kernel_rfl) rfl rfl ?_
                      go_simp
                      have hqk := bel1 z8 (.cells #[.int .i64 0, .int .i64 0] 41)
                      replace k13 := k13.call hqk
                      have k14 := Bx.new z8 41 #[.int .i64 0, .int .i64 0]
                      have hlk14 := hS.size
                      have hT := hS.trans (hqk.mono hS.size)
                      have hne : qk13 ≠ z8.heap.size := by have := ltk13; omega
                      obtain ⟨z14, hy⟩ : ∃ x, z8.alloc (.cells #[.int .i64 0, .int .i64 0] 41) = x := ⟨_, rfl⟩
                      rw [hy] at hT k13 k14 ⊢
                      obtain ⟨qk14, hbq⟩ : ∃ p, z8.heap.size = p := ⟨_, rfl⟩
                      rw [hbq] at k14 hlk14 hne ⊢
                      have ltk14 := k14.lt
                      clear hy hbq hqk
                      have hSn := hT
                      clear hS
                      refine Onward.on hSn (fun hS => ?_)
                      try dsimp only at hS
                      clear hSn
                      try simp only [Act.put, List.getElem_toArray, List.getElem_cons_succ, List.getElem_cons_zero, List.setIfInBounds_toArray, List.set_cons_zero, List.set_cons_succ]
                      refine AnyG.one (i := 15) (by kernel_rfl) rfl rfl ?_
                      obtain ⟨x0, x1, xf, xz⟩ := k13.two'
                      have hS0 := hS
                      go_simp
                      clear x0 x1 xf xz
                      have hSn := ((hS.setCell (p := ⟨qk13, 0, none⟩) hlk13 (.int .i64 a0)).setCell (p := ⟨qk13, 1, none⟩) hlk13 (.int .i64 a1))
                      clear hS
                      refine Onward.on hSn (fun hS => ?_)
                      try dsimp only at hS
                      clear hSn
                      try simp only [Act.put, List.getElem_toArray, List.getElem_cons_succ, List.getElem_cons_zero, List.setIfInBounds_toArray, List.set_cons_zero, List.set_cons_succ]
                      refine AnyG.one (i := 16) (by kernel_rfl) rfl rfl ?_
                      have k14x := (k14.far (p := ⟨qk13, 0, none⟩) (by simp; omega) (.int .i64 a0)).far (p := ⟨qk13, 1, none⟩) (by simp; omega) (.int .i64 a1)
                      obtain ⟨x0, x1, xf, xz⟩ := k14x.two'
                      go_simp
                      clear x0 x1 xf xz
                      have hSn := ((hS.setCell (p := ⟨qk14, 0, none⟩) hlk14 (.int .i64 a2)).setCell (p := ⟨qk14, 1, none⟩) hlk14 (.int .i64 a3))
                      clear hS
                      refine Onward.on hSn (fun hS => ?_)
                      try dsimp only at hS
                      clear hSn
                      try simp only [Act.put, List.getElem_toArray, List.getElem_cons_succ, List.getElem_cons_zero, List.setIfInBounds_toArray, List.set_cons_zero, List.set_cons_succ]
                      refine AnyG.one (i := 17) (by kernel_rfl) rfl rfl ?_
                      go_simp
                      refine Onward.last rfl ?_
                      try simp only [Act.put, List.getElem_toArray, List.getElem_cons_succ, List.getElem_cons_zero, List.setIfInBounds_toArray, List.set_cons_zero, List.set_cons_succ]
                      refine AnyG.done (by kernel_rfl) ?_ _
                      have f14 := (((k14.far (p := ⟨qk13, 0, none⟩) (by simp; omega) (.int .i64 a0)).far (p := ⟨qk13, 1, none⟩) (by simp; omega) (.int .i64 a1)).set_ 0 (.int .i64 a2)).set_ 1 (.int .i64 a3)
                      have f13 := (((k13.set_ 0 (.int .i64 a0)).set_ 1 (.int .i64 a1)).far (p := ⟨qk14, 0, none⟩) (by simp; omega) (.int .i64 a2)).far (p := ⟨qk14, 1, none⟩) (by simp; omega) (.int .i64 a3)
                      simp only [List.setIfInBounds_toArray, List.set_cons_zero, List.set_cons_succ] at f13 f14
                      have hBz := (((hS0.setCell (p := ⟨qk13, 0, none⟩) hlk13 (.int .i64 a0)).setCell (p := ⟨qk13, 1, none⟩) hlk13 (.int .i64 a1)).setCell (p := ⟨qk14, 0, none⟩) hlk14 (.int .i64 a2)).setCell (p := ⟨qk14, 1, none⟩) hlk14 (.int .i64 a3)
                      go_simp
                      go_wp2_with fail
                      go_meet
                      exact ⟨qk13, qk14, rfl, rfl, rfl, f13, f14, hBz⟩
                    · refine ⟨_, rfl, rfl, ?_⟩
                      go_simp
                      have hqk := bel1 z13 (.cells #[.int .i64 0, .int .i64 0] 41)
                      replace k13 := k13.call hqk
                      have k14 := Bx.new z13 41 #[.int .i64 0, .int .i64 0]
                      have hlk14 := hS.size
                      have hT := hS.trans (hqk.mono hS.size)
                      have hne : qk13 ≠ z13.heap.size := by have := ltk13; omega
                      obtain ⟨z14, hy⟩ : ∃ x, z13.alloc (.cells #[.int .i64 0, .int .i64 0] 41) = x := ⟨_, rfl⟩
                      rw [hy] at hT k13 k14 ⊢
                      obtain ⟨qk14, hbq⟩ : ∃ p, z13.heap.size = p := ⟨_, rfl⟩
                      rw [hbq] at k14 hlk14 hne ⊢
                      have ltk14 := k14.lt
                      clear hy hbq hqk
                      have hSn := hT
                      clear hS
                      refine Onward.on hSn (fun hS => ?_)
                      try dsimp only at hS
                      clear hSn
                      try simp only [Act.put, List.getElem_toArray, List.getElem_cons_succ, List.getElem_cons_zero, List.setIfInBounds_toArray, List.set_cons_zero, List.set_cons_succ]
                      refine AnyG.one (i := 8) (by kernel_rfl) rfl rfl ?_
                      go_simp
                      refine (refDrafts_any v p A n c s _ HO.out.fit HO.out.lf (hPU.call hS).hV (hPU.call hS).hS HO.out.sl (by have := HO.out.n20; omega)).mono ?_
                      rintro e8 z8 ⟨rfl, hq8⟩
                      rw [HE.out]
                      replace k13 := k13.call hq8
                      replace k14 := k14.call hq8
                      have ltk13 := k13.lt
                      have ltk14 := k14.lt
                      have hSn := (hS.trans (hq8.mono hS.size))
                      clear hS
                      refine Onward.on hSn (fun hS => ?_)
                      try dsimp only at hS
                      clear hSn
                      try simp only [Act.put, List.getElem_toArray, List.getElem_cons_succ, List.getElem_cons_zero, List.setIfInBounds_toArray, List.set_cons_zero, List.set_cons_succ]
                      refine AnyG.takeC (i := 9) (v := ?_) rfl (by kernel_rfl) (fun _ _ _ h => h) rfl ?_ hS ?_
                      rotate_left
                      · (intro w' hSw; (try dsimp only at hSw); go_simp; try with_reducible rfl)
                      try simp only [Act.put, List.getElem_toArray, List.getElem_cons_succ, List.getElem_cons_zero, List.setIfInBounds_toArray, List.set_cons_zero, List.set_cons_succ]
                      refine AnyG.takeC (i := 10) (v := ?_) rfl (by kernel_rfl) (fun _ _ _ h => h) rfl ?_ hS ?_
                      rotate_left
                      · (intro w' hSw; (try dsimp only at hSw); go_simp; try with_reducible rfl)
                      try simp only [Act.put, List.getElem_toArray, List.getElem_cons_succ, List.getElem_cons_zero, List.setIfInBounds_toArray, List.set_cons_zero, List.set_cons_succ]
                      refine AnyG.takeC (i := 11) (v := ?_) rfl (by kernel_rfl) (fun _ _ _ h => h) rfl ?_ hS ?_
                      rotate_left
                      · (intro w' hSw; (try dsimp only at hSw); go_simp; try with_reducible rfl)
                      try simp only [Act.put, List.getElem_toArray, List.getElem_cons_succ, List.getElem_cons_zero, List.setIfInBounds_toArray, List.set_cons_zero, List.set_cons_succ]
                      refine AnyG.takeC (i := 12) (v := ?_) rfl (by kernel_rfl) (fun _ _ _ h => h) rfl ?_ hS ?_
                      rotate_left
                      · (intro w' hSw; (try dsimp only at hSw); go_simp; try with_reducible rfl)
                      try simp only [Act.put, List.getElem_toArray, List.getElem_cons_succ, List.getElem_cons_zero, List.setIfInBounds_toArray, List.set_cons_zero, List.set_cons_succ]
                      refine AnyG.one (i := 15) (by kernel_rfl) rfl rfl ?_
                      obtain ⟨x0, x1, xf, xz⟩ := k13.two'
                      have hS0 := hS
                      go_simp
                      clear x0 x1 xf xz
                      have hSn := ((hS.setCell (p := ⟨qk13, 0, none⟩) hlk13 (.int .i64 a0)).setCell (p := ⟨qk13, 1, none⟩) hlk13 (.int .i64 a1))
                      clear hS
                      refine Onward.on hSn (fun hS => ?_)
                      try dsimp only at hS
                      clear hSn
                      try simp only [Act.put, List.getElem_toArray, List.getElem_cons_succ, List.getElem_cons_zero, List.setIfInBounds_toArray, List.set_cons_zero, List.set_cons_succ]
                      refine AnyG.one (i := 16) (by kernel_rfl) rfl rfl ?_
                      have k14x := (k14.far (p := ⟨qk13, 0, none⟩) (by simp; omega) (.int .i64 a0)).far (p := ⟨qk13, 1, none⟩) (by simp; omega) (.int .i64 a1)
                      obtain ⟨x0, x1, xf, xz⟩ := k14x.two'
                      go_simp
                      clear x0 x1 xf xz
                      have hSn := ((hS.setCell (p := ⟨qk14, 0, none⟩) hlk14 (.int .i64 a2)).setCell (p := ⟨qk14, 1, none⟩) hlk14 (.int .i64 a3))
                      clear hS
                      refine Onward.on hSn (fun hS => ?_)
                      try dsimp only at hS
                      clear hSn
                      try simp only [Act.put, List.getElem_toArray, List.getElem_cons_succ, List.getElem_cons_zero, List.setIfInBounds_toArray, List.set_cons_zero, List.set_cons_succ]
                      refine AnyG.one (i := 17) (by kernel_rfl) rfl rfl ?_
                      go_simp
                      refine Onward.last rfl ?_
                      try simp only [Act.put, List.getElem_toArray, List.getElem_cons_succ, List.getElem_cons_zero, List.setIfInBounds_toArray, List.set_cons_zero, List.set_cons_succ]
                      refine AnyG.done (by kernel_rfl) ?_ _
                      have f14 := (((k14.far (p := ⟨qk13, 0, none⟩) (by simp; omega) (.int .i64 a0)).far (p := ⟨qk13, 1, none⟩) (by simp; omega) (.int .i64 a1)).set_ 0 (.int .i64 a2)).set_ 1 (.int .i64 a3)
                      have f13 := (((k13.set_ 0 (.int .i64 a0)).set_ 1 (.int .i64 a1)).far (p := ⟨qk14, 0, none⟩) (by simp; omega) (.int .i64 a2)).far (p := ⟨qk14, 1, none⟩) (by simp; omega) (.int .i64 a3)
                      simp only [List.setIfInBounds_toArray, List.set_cons_zero, List.set_cons_succ] at f13 f14
                      have hBz := (((hS0.setCell (p := ⟨qk13, 0, none⟩) hlk13 (.int .i64 a0)).setCell (p := ⟨qk13, 1, none⟩) hlk13 (.int .i64 a1)).setCell (p := ⟨qk14, 0, none⟩) hlk14 (.int .i64 a2)).setCell (p := ⟨qk14, 1, none⟩) hlk14 (.int .i64 a3)
                      go_simp
                      go_wp2_with fail
                      go_meet
                      exact ⟨qk13, qk14, rfl, rfl, rfl, f13, f14, hBz⟩
                  · refine ⟨_, rfl, rfl, ?_⟩
                    go_simp
                    have hqk := bel1 y0 (.cells #[.int .i64 0, .int .i64 0] 41)
                    have k14 := Bx.new y0 41 #[.int .i64 0, .int .i64 0]
                    have hlk14 := hS.size
                    have hT := hS.trans (hqk.mono hS.size)
                    obtain ⟨z14, hy⟩ : ∃ x, y0.alloc (.cells #[.int .i64 0, .int .i64 0] 41) = x := ⟨_, rfl⟩
                    rw [hy] at hT k14 ⊢
                    obtain ⟨qk14, hbq⟩ : ∃ p, y0.heap.size = p := ⟨_, rfl⟩
                    rw [hbq] at k14 hlk14 ⊢
                    have ltk14 := k14.lt
                    clear hy hbq hqk
                    have hSn := hT
                    clear hS
                    refine Onward.on hSn (fun hS => ?_)
                    try dsimp only at hS
                    clear hSn
                    try simp only [Act.put, List.getElem_toArray, List.getElem_cons_succ, List.getElem_cons_zero, List.setIfInBounds_toArray, List.set_cons_zero, List.set_cons_succ]
                    refine AnyG.all (rs := [8, 13]) (by kernel_rfl) (by simp) ?_
                    intro ii hii
                    simp only [List.mem_cons, List.not_mem_nil, or_false] at hii
                    rcases hii with rfl | rfl
                    · refine ⟨_, rfl, rfl, ?_⟩
                      go_simp
                      refine (refDrafts_any v p A n c s _ HO.out.fit HO.out.lf (hPU.call hS).hV (hPU.call hS).hS HO.out.sl (by have := HO.out.n20; omega)).mono ?_
                      rintro e8 z8 ⟨rfl, hq8⟩
                      rw [HE.out]
                      replace k14 := k14.call hq8
                      have ltk14 := k14.lt
                      have hSn := (hS.trans (hq8.mono hS.size))
                      clear hS
                      refine Onward.on hSn (fun hS => ?_)
                      try dsimp only at hS
                      clear hSn
                      try simp only [Act.put, List.getElem_toArray, List.getElem_cons_succ, List.getElem_cons_zero, List.setIfInBounds_toArray, List.set_cons_zero, List.set_cons_succ]
                      refine AnyG.takeC (i := 9) (v := ?_) rfl (by kernel_rfl) (fun _ _ _ h => h) rfl ?_ hS ?_
                      rotate_left
                      · (intro w' hSw; (try dsimp only at hSw); go_simp; try with_reducible rfl)
                      try simp only [Act.put, List.getElem_toArray, List.getElem_cons_succ, List.getElem_cons_zero, List.setIfInBounds_toArray, List.set_cons_zero, List.set_cons_succ]
                      refine AnyG.takeC (i := 10) (v := ?_) rfl (by kernel_rfl) (fun _ _ _ h => h) rfl ?_ hS ?_
                      rotate_left
                      · (intro w' hSw; (try dsimp only at hSw); go_simp; try with_reducible rfl)
                      try simp only [Act.put, List.getElem_toArray, List.getElem_cons_succ, List.getElem_cons_zero, List.setIfInBounds_toArray, List.set_cons_zero, List.set_cons_succ]
                      refine AnyG.takeC (i := 11) (v := ?_) rfl (by kernel_rfl) (fun _ _ _ h => h) rfl ?_ hS ?_
                      rotate_left
                      · (intro w' hSw; (try dsimp only at hSw); go_simp; try with_reducible rfl)
                      try simp only [Act.put, List.getElem_toArray, List.getElem_cons_succ, List.getElem_cons_zero, List.setIfInBounds_toArray, List.set_cons_zero, List.set_cons_succ]
                      refine AnyG.takeC (i := 12) (v := ?_) rfl (by kernel_rfl) (fun _ _ _ h => h) rfl ?_ hS ?_
                      rotate_left
                      · (intro w' hSw; (try dsimp only at hSw); go_simp; try with_reducible rfl)
                      try simp only [Act.put, List.getElem_toArray, List.getElem_cons_succ, List.getElem_cons_zero, List.setIfInBounds_toArray, List.set_cons_zero, List.set_cons_succ]
                      refine AnyG.one (i := 13) (by kernel_rfl) rfl rfl ?_
                      go_simp
                      have hqk := bel1 z8 (.cells #[.int .i64 0, .int .i64 0] 41)
                      replace k14 := k14.call hqk
                      have k13 := Bx.new z8 41 #[.int .i64 0, .int .i64 0]
                      have hlk13 := hS.size
                      have hT := hS.trans (hqk.mono hS.size)
                      have hne : qk14 ≠ z8.heap.size := by have := ltk14; omega
                      obtain ⟨z13, hy⟩ : ∃ x, z8.alloc (.cells #[.int .i64 0, .int .i64 0] 41) = x := ⟨_, rfl⟩
                      rw [hy] at hT k14 k13 ⊢
                      obtain ⟨qk13, hbq⟩ : ∃ p, z8.heap.size = p := ⟨_, rfl⟩
                      rw [hbq] at k13 hlk13 hne ⊢
                      have ltk13 := k13.lt
                      clear hy hbq hqk
                      have hSn := hT
                      clear hS
                      refine Onward.on hSn (fun hS => ?_)
                      try dsimp only at hS
                      clear hSn
                      try simp only [Act.put, List.getElem_toArray, List.getElem_cons_succ, List.getElem_cons_zero, List.setIfInBounds_toArray, List.set_cons_zero, List.set_cons_succ]
                      refine AnyG.one (i := 15) (by kernel_rfl) rfl rfl ?_
                      obtain ⟨x0, x1, xf, xz⟩ := k13.two'
                      have hS0 := hS
                      go_simp
                      clear x0 x1 xf xz
                      have hSn := ((hS.setCell (p := ⟨qk13, 0, none⟩) hlk13 (.int .i64 a0)).setCell (p := ⟨qk13, 1, none⟩) hlk13 (.int .i64 a1))
                      clear hS
                      refine Onward.on hSn (fun hS => ?_)
                      try dsimp only at hS
                      clear hSn
                      try simp only [Act.put, List.getElem_toArray, List.getElem_cons_succ, List.getElem_cons_zero, List.setIfInBounds_toArray, List.set_cons_zero, List.set_cons_succ]
                      refine AnyG.one (i := 16) (by kernel_rfl) rfl rfl ?_
                      have k14x := (k14.far (p := ⟨qk13, 0, none⟩) (by simp; omega) (.int .i64 a0)).far (p := ⟨qk13, 1, none⟩) (by simp; omega) (.int .i64 a1)
                      obtain ⟨x0, x1, xf, xz⟩ := k14x.two'
                      go_simp
                      clear x0 x1 xf xz
                      have hSn := ((hS.setCell (p := ⟨qk14, 0, none⟩) hlk14 (.int .i64 a2)).setCell (p := ⟨qk14, 1, none⟩) hlk14 (.int .i64 a3))
                      clear hS
                      refine Onward.on hSn (fun hS => ?_)
                      try dsimp only at hS
                      clear hSn
                      try simp only [Act.put, List.getElem_toArray, List.getElem_cons_succ, List.getElem_cons_zero, List.setIfInBounds_toArray, List.set_cons_zero, List.set_cons_succ]
                      refine AnyG.one (i := 17) (by kernel_rfl) rfl rfl ?_
                      go_simp
                      refine Onward.last rfl ?_
                      try simp only [Act.put, List.getElem_toArray, List.getElem_cons_succ, List.getElem_cons_zero, List.setIfInBounds_toArray, List.set_cons_zero, List.set_cons_succ]
                      refine AnyG.done (by kernel_rfl) ?_ _
                      have f14 := (((k14.far (p := ⟨qk13, 0, none⟩) (by simp; omega) (.int .i64 a0)).far (p := ⟨qk13, 1, none⟩) (by simp; omega) (.int .i64 a1)).set_ 0 (.int .i64 a2)).set_ 1 (.int .i64 a3)
                      have f13 := (((k13.set_ 0 (.int .i64 a0)).set_ 1 (.int .i64 a1)).far (p := ⟨qk14, 0, none⟩) (by simp; omega) (.int .i64 a2)).far (p := ⟨qk14, 1, none⟩) (by simp; omega) (.int .i64 a3)
                      simp only [List.setIfInBounds_toArray, List.set_cons_zero, List.set_cons_succ] at f13 f14
                      have hBz := (((hS0.setCell (p := ⟨qk13, 0, none⟩) hlk13 (.int .i64 a0)).setCell (p := ⟨qk13, 1, none⟩) hlk13 (.int .i64 a1)).setCell (p := ⟨qk14, 0, none⟩) hlk14 (.int .i64 a2)).setCell (p := ⟨qk14, 1, none⟩) hlk14 (.int .i64 a3)
                      go_simp
                      go_wp2_with fail
                      go_meet
                      exact ⟨qk13, qk14, rfl, rfl, rfl, f13, f14, hBz⟩
                    · refine ⟨_, rfl, rfl, ?_⟩
                      go_simp
                      have hqk := bel1 z14 (.cells #[.int .i64 0, .int .i64 0] 41)
                      replace k14 := k14.call hqk
                      have k13 := Bx.new z14 41 #[.int .i64 0, .int .i64 0]
                      have hlk13 := hS.size
                      have hT := hS.trans (hqk.mono hS.size)
                      have hne : qk14 ≠ z14.heap.size := by have := ltk14; omega
                      obtain ⟨z13, hy⟩ : ∃ x, z14.alloc (.cells #[.int .i64 0, .int .i64 0] 41) = x := ⟨_, rfl⟩
                      rw [hy] at hT k14 k13 ⊢
                      obtain ⟨qk13, hbq⟩ : ∃ p, z14.heap.size = p := ⟨_, rfl⟩
                      rw [hbq] at k13 hlk13 hne ⊢
                      have ltk13 := k13.lt
                      clear hy hbq hqk
                      have hSn := hT
                      clear hS
                      refine Onward.on hSn (fun hS => ?_)
                      try dsimp only at hS
                      clear hSn
                      try simp only [Act.put, List.getElem_toArray, List.getElem_cons_succ, List.getElem_cons_zero, List.setIfInBounds_toArray, List.set_cons_zero, List.set_cons_succ]
                      refine AnyG.one (i := 8) (by kernel_rfl) rfl rfl ?_
                      go_simp
                      refine (refDrafts_any v p A n c s _ HO.out.fit HO.out.lf (hPU.call hS).hV (hPU.call hS).hS HO.out.sl (by have := HO.out.n20; omega)).mono ?_
                      rintro e8 z8 ⟨rfl, hq8⟩
                      rw [HE.out]
                      replace k13 := k13.call hq8
                      replace k14 := k14.call hq8
                      have ltk13 := k13.lt
                      have ltk14 := k14.lt
                      have hSn := (hS.trans (hq8.mono hS.size))
                      clear hS
                      refine Onward.on hSn (fun hS => ?_)
                      try dsimp only at hS
                      clear hSn
                      try simp only [Act.put, List.getElem_toArray, List.getElem_cons_succ, List.getElem_cons_zero, List.setIfInBounds_toArray, List.set_cons_zero, List.set_cons_succ]
                      refine AnyG.takeC (i := 9) (v := ?_) rfl (by kernel_rfl) (fun _ _ _ h => h) rfl ?_ hS ?_
                      rotate_left
                      · (intro w' hSw; (try dsimp only at hSw); go_simp; try with_reducible rfl)
                      try simp only [Act.put, List.getElem_toArray, List.getElem_cons_succ, List.getElem_cons_zero, List.setIfInBounds_toArray, List.set_cons_zero, List.set_cons_succ]
                      refine AnyG.takeC (i := 10) (v := ?_) rfl (by kernel_rfl) (fun _ _ _ h => h) rfl ?_ hS ?_
                      rotate_left
                      · (intro w' hSw; (try dsimp only at hSw); go_simp; try with_reducible rfl)
                      try simp only [Act.put, List.getElem_toArray, List.getElem_cons_succ, List.getElem_cons_zero, List.setIfInBounds_toArray, List.set_cons_zero, List.set_cons_succ]
                      refine AnyG.takeC (i := 11) (v := ?_) rfl (by kernel_rfl) (fun _ _ _ h => h) rfl ?_ hS ?_
                      rotate_left
                      · (intro w' hSw; (try dsimp only at hSw); go_simp; try with_reducible rfl)
                      try simp only [Act.put, List.getElem_toArray, List.getElem_cons_succ, List.getElem_cons_zero, List.setIfInBounds_toArray, List.set_cons_zero, List.set_cons_succ]
                      refine AnyG.takeC (i := 12) (v := ?_) rfl (by kernel_rfl) (fun _ _ _ h => h) rfl ?_ hS ?_
                      rotate_left
                      · (intro w' hSw; (try dsimp only at hSw); go_simp; try with_reducible rfl)
                      try simp only [Act.put, List.getElem_toArray, List.getElem_cons_succ, List.getElem_cons_zero, List.setIfInBounds_toArray, List.set_cons_zero, List.set_cons_succ]
                      refine AnyG.one (i := 15) (by kernel_rfl) rfl rfl ?_
                      obtain ⟨x0, x1, xf, xz⟩ := k13.two'
                      have hS0 := hS
                      go_simp
                      clear x0 x1 xf xz
                      have hSn := ((hS.setCell (p := ⟨qk13, 0, none⟩) hlk13 (.int .i64 a0)).setCell (p := ⟨qk13, 1, none⟩) hlk13 (.int .i64 a1))
                      clear hS
                      refine Onward.on hSn (fun hS => ?_)
                      try dsimp only at hS
                      clear hSn
                      try simp only [Act.put, List.getElem_toArray, List.getElem_cons_succ, List.getElem_cons_zero, List.setIfInBounds_toArray, List.set_cons_zero, List.set_cons_succ]
                      refine AnyG.one (i := 16) (by kernel_rfl) rfl rfl ?_
                      have k14x := (k14.far (p := ⟨qk13, 0, none⟩) (by simp; omega) (.int .i64 a0)).far (p := ⟨qk13, 1, none⟩) (by simp; omega) (.int .i64 a1)
                      obtain ⟨x0, x1, xf, xz⟩ := k14x.two'
                      go_simp
                      clear x0 x1 xf xz
                      have hSn := ((hS.setCell (p := ⟨qk14, 0, none⟩) hlk14 (.int .i64 a2)).setCell (p := ⟨qk14, 1, none⟩) hlk14 (.int .i64 a3))
                      clear hS
                      refine Onward.on hSn (fun hS => ?_)
                      try dsimp only at hS
                      clear hSn
                      try simp only [Act.put, List.getElem_toArray, List.getElem_cons_succ, List.getElem_cons_zero, List.setIfInBounds_toArray, List.set_cons_zero, List.set_cons_succ]
                      refine AnyG.one (i := 17) (by kernel_rfl) rfl rfl ?_
                      go_simp
                      refine Onward.last rfl ?_
                      try simp only [Act.put, List.getElem_toArray, List.getElem_cons_succ, List.getElem_cons_zero, List.setIfInBounds_toArray, List.set_cons_zero, List.set_cons_succ]
                      refine AnyG.done (by kernel_rfl) ?_ _
                      have f14 := (((k14.far (p := ⟨qk13, 0, none⟩) (by simp; omega) (.int .i64 a0)).far (p := ⟨qk13, 1, none⟩) (by simp; omega) (.int .i64 a1)).set_ 0 (.int .i64 a2)).set_ 1 (.int .i64 a3)
                      have f13 := (((k13.set_ 0 (.int .i64 a0)).set_ 1 (.int .i64 a1)).far (p := ⟨qk14, 0, none⟩) (by simp; omega) (.int .i64 a2)).far (p := ⟨qk14, 1, none⟩) (by simp; omega) (.int .i64 a3)
                      simp only [List.setIfInBounds_toArray, List.set_cons_zero, List.set_cons_succ] at f13 f14
                      have hBz := (((hS0.setCell (p := ⟨qk13, 0, none⟩) hlk13 (.int .i64 a0)).setCell (p := ⟨qk13, 1, none⟩) hlk13 (.int .i64 a1)).setCell (p := ⟨qk14, 0, none⟩) hlk14 (.int .i64 a2)).setCell (p := ⟨qk14, 1, none⟩) hlk14 (.int .i64 a3)
                      go_simp
                      go_wp2_with fail
                      go_meet
                      exact ⟨qk13, qk14, rfl, rfl, rfl, f13, f14, hBz⟩
              case rest =>
                obtain ⟨q23, q24, rfl, rfl, rfl, k23, k24, hBU⟩ := hcut
                replace hBW := hBW.trans (hBU.mono hBW.size)
                replace hPU := hPU.call hBU
                replace kq := kq.call hBU
                replace k20 := k20.call hBU
                replace k21 := k21.call hBU
                replace hVo := hVo.call hBU
                replace hSB := (hSB.below hBU).more hBU.size
                clear hBU
                obtain ⟨U, hU⟩ : ∃ U, U = wc := ⟨_, rfl⟩
                subst hU
                go_upto_region 16 with fail
                go_cut [26, 27, 28] from 72 to 196 (fun va vb vc x => ∃ (qb : Nat), va = .bool lv ∧ vb = .pointer (some ⟨qb, 0, none⟩) ∧ vc = .int .i64 ed ∧ Bx x qb 41 #[.int .i64 a4, .int .i64 a5] ∧ Below U.heap.size U x)
                case first =>
                  obtain ⟨x0, x1, x2, x3, x4, x5, x6, xf, xz⟩ := kq.seven
                  go_wp2_with (first
                    | (go_at_call 25; refine (level_any v ⟨HA, p.hn, hc, SA, p.sn, sc, LA, p.ln, lc⟩ B n d s _ HO.out.fitq HO.out.lf hVo hSB HO.out.sl (by have := HO.out.n20; omega)).mono ?_; rintro e z1 ⟨rfl, hq1⟩; rw [HE2.out])
                    | fail)
                  clear x0 x1 x2 x3 x4 x5 x6 xf xz
                  go_meet
                  refine ⟨_, rfl, rfl, rfl, ?_, ?_⟩
                  · exact Bx.new _ _ _
                  · exact hq1.alloc hq1.size _
                case rest =>
                  obtain ⟨q27, rfl, rfl, rfl, k27, hBU⟩ := hcut
                  replace hBW := hBW.trans (hBU.mono hBW.size)
                  replace hPU := hPU.call hBU
                  replace kq := kq.call hBU
                  replace k20 := k20.call hBU
                  replace k21 := k21.call hBU
                  replace k23 := k23.call hBU
                  replace k24 := k24.call hBU
                  replace hVo := hVo.call hBU
                  replace hSB := (hSB.below hBU).more hBU.size
                  clear hBU
                  obtain ⟨U, hU⟩ : ∃ U, U = wc := ⟨_, rfl⟩
                  subst hU
                  go_upto_region 17 with fail
                  go_cut [29, 30, 31] from 72 to 196 (fun va vb vc x => ∃ (qb : Nat), va = .bool lv ∧ vb = .pointer (some ⟨qb, 0, none⟩) ∧ vc = .int .i64 ed ∧ Bx x qb 41 #[.int .i64 a4, .int .i64 a5] ∧ Below U.heap.size U x)
                  case first =>
                    as_aux_lemma =>
                      refine AnyG.startC (by kernel_rfl) ?_
                      refine AnyG.takeP (i := 0) (v := ?_) rfl (by kernel_rfl) (fun _ _ _ h => h) rfl ?_ ?_
                      rotate_left
                      · (intro w'; go_simp; try with_reducible rfl)
                      try simp only [Act.put, List.getElem_toArray, List.getElem_cons_succ, List.getElem_cons_zero, List.setIfInBounds_toArray, List.set_cons_zero, List.set_cons_succ]
                      refine AnyG.takeP (i := 1) (v := ?_) rfl (by kernel_rfl) (fun _ _ _ h => h) rfl ?_ ?_
                      rotate_left
                      · (intro w'; go_simp; try with_reducible rfl)
                      try simp only [Act.put, List.getElem_toArray, List.getElem_cons_succ, List.getElem_cons_zero, List.setIfInBounds_toArray, List.set_cons_zero, List.set_cons_succ]
                      refine AnyG.takeP (i := 2) (v := ?_) rfl (by kernel_rfl) (fun _ _ _ h => h) rfl ?_ ?_
                      rotate_left
                      · (intro w'; go_simp; try with_reducible rfl)
                      try simp only [Act.put, List.getElem_toArray, List.getElem_cons_succ, List.getElem_cons_zero, List.setIfInBounds_toArray, List.set_cons_zero, List.set_cons_succ]
                      refine AnyG.takeP (i := 4) (v := ?_) rfl (by kernel_rfl) (fun _ _ _ h => h) rfl ?_ ?_
                      rotate_left
                      · (intro w'; go_simp; try with_reducible rfl)
                      try simp only [Act.put, List.getElem_toArray, List.getElem_cons_succ, List.getElem_cons_zero, List.setIfInBounds_toArray, List.set_cons_zero, List.set_cons_succ]
                      refine AnyG.takeP (i := 5) (v := ?_) rfl (by kernel_rfl) (fun _ _ _ h => h) rfl ?_ ?_
                      rotate_left
                      · (intro w'; go_simp; try with_reducible rfl)
                      try simp only [Act.put, List.getElem_toArray, List.getElem_cons_succ, List.getElem_cons_zero, List.setIfInBounds_toArray, List.set_cons_zero, List.set_cons_succ]
                      refine AnyG.takeP (i := 6) (v := ?_) rfl (by kernel_rfl) (fun _ _ _ h => h) rfl ?_ ?_
                      rotate_left
                      · (intro w'; go_simp; try with_reducible rfl)
                      try simp only [Act.put, List.getElem_toArray, List.getElem_cons_succ, List.getElem_cons_zero, List.setIfInBounds_toArray, List.set_cons_zero, List.set_cons_succ]
                      refine AnyG.enter (fun w' : World => Below U.heap.size U w') (fun i => i != 16) ?_
                      have hS : (fun w' : World => Below U.heap.size U w') (U.drew) := (Below.refl _ _).drew
                      try dsimp only at hS
                      obtain ⟨y0, hy0⟩ : ∃ y, U.drew = y := ⟨_, rfl⟩
                      rw [hy0] at hS ⊢
                      clear hy0
                      refine AnyG.takeC (i := 3) (v := ?_) rfl (by kernel_rfl) (fun _ _ _ h => h) rfl ?_ hS ?_
                      rotate_left
                      · (intro w' hSw; (try dsimp only at hSw); have hp := hPU.call hSw; have c0 := hp.c0; have c1 := hp.c1; have c2 := hp.c2; have c3 := hp.c3; have c4 := hp.c4; have c5 := hp.c5; have c6 := hp.c6; go_simp; try with_reducible rfl)
                      try simp only [Act.put, List.getElem_toArray, List.getElem_cons_succ, List.getElem_cons_zero, List.setIfInBounds_toArray, List.set_cons_zero, List.set_cons_succ]
                      refine AnyG.takeC (i := 7) (v := ?_) rfl (by kernel_rfl) (fun _ _ _ h => h) rfl ?_ hS ?_
                      rotate_left
                      · (intro w' hSw; (try dsimp only at hSw); have b0 := (hPU.call hSw).b0; go_simp; try with_reducible rfl)
                      try simp only [Act.put, List.getElem_toArray, List.getElem_cons_succ, List.getElem_cons_zero, List.setIfInBounds_toArray, List.set_cons_zero, List.set_cons_succ]
                      refine AnyG.all (rs := [8, 13]) (by kernel_rfl) (by simp) ?_
                      intro ii hii
                      simp only [List.mem_cons, List.not_mem_nil, or_false] at hii
                      rcases hii with rfl | rfl
                      · refine ⟨_, rfl, rfl, ?_⟩
                        go_simp
                        refine (refLevel_any v p A n c s _ HO.out.fit HO.out.lf (hPU.call hS).hV (hPU.call hS).hS HO.out.sl (by have := HO.out.n20; omega)).mono ?_
                        rintro e8 z8 ⟨rfl, hq8⟩
                        rw [HE2.out]
                        have hSn := (hS.trans (hq8.mono hS.size))
                        clear hS
                        refine Onward.on hSn (fun hS => ?_)
                        try dsimp only at hS
                        clear hSn
                        try simp only [Act.put, List.getElem_toArray, List.getElem_cons_succ, List.getElem_cons_zero, List.setIfInBounds_toArray, List.set_cons_zero, List.set_cons_succ]
                        refine AnyG.takeC (i := 9) (v := ?_) rfl (by kernel_rfl) (fun _ _ _ h => h) rfl ?_ hS ?_
                        rotate_left
                        · (intro w' hSw; (try dsimp only at hSw); go_simp; try with_reducible rfl)
                        try simp only [Act.put, List.getElem_toArray, List.getElem_cons_succ, List.getElem_cons_zero, List.setIfInBounds_toArray, List.set_cons_zero, List.set_cons_succ]
                        refine AnyG.takeC (i := 10) (v := ?_) rfl (by kernel_rfl) (fun _ _ _ h => h) rfl ?_ hS ?_
                        rotate_left
                        · (intro w' hSw; (try dsimp only at hSw); go_simp; try with_reducible rfl)
                        try simp only [Act.put, List.getElem_toArray, List.getElem_cons_succ, List.getElem_cons_zero, List.setIfInBounds_toArray, List.set_cons_zero, List.set_cons_succ]
                        refine AnyG.takeC (i := 11) (v := ?_) rfl (by kernel_rfl) (fun _ _ _ h => h) rfl ?_ hS ?_
                        rotate_left
                        · (intro w' hSw; (try dsimp only at hSw); go_simp; try with_reducible rfl)
                        try simp only [Act.put, List.getElem_toArray, List.getElem_cons_succ, List.getElem_cons_zero, List.setIfInBounds_toArray, List.set_cons_zero, List.set_cons_succ]
                        refine AnyG.takeC (i := 12) (v := ?_) rfl (by kernel_rfl) (fun _ _ _ h => h) rfl ?_ hS ?_
                        rotate_left
                        · (intro w' hSw; (try dsimp only at hSw); go_simp; try with_reducible rfl)
                        try simp only [Act.put, List.getElem_toArray, List.getElem_cons_succ, List.getElem_cons_zero, List.setIfInBounds_toArray, List.set_cons_zero, List.set_cons_succ]
                        refine AnyG.one (i := 13) (by kernel_rfl) rfl rfl ?_
                        go_simp
                        have hqk := bel1 z8 (.cells #[.int .i64 0, .int .i64 0] 41)
                        have k13 := Bx.new z8 41 #[.int .i64 0, .int .i64 0]
                        have hlk13 := hS.size
                        have hT := hS.trans (hqk.mono hS.size)
                        obtain ⟨z13, hy⟩ : ∃ x, z8.alloc (.cells #[.int .i64 0, .int .i64 0] 41) = x := ⟨_, rfl⟩
                        rw [hy] at hT k13 ⊢
                        obtain ⟨qk13, hbq⟩ : ∃ p, z8.heap.size = p := ⟨_, rfl⟩
                        rw [hbq] at k13 hlk13 ⊢
                        have ltk13 := k13.lt
                        clear hy hbq hqk
                        have hSn := hT
                        clear hS
                        refine Onward.on hSn (fun hS => ?_)
                        try dsimp only at hS
                        clear hSn
                        try simp only [Act.put, List.getElem_toArray, List.getElem_cons_succ, List.getElem_cons_zero, List.setIfInBounds_toArray, List.set_cons_zero, List.set_cons_succ]
                        refine AnyG.one (i := 14) (by kernel_rfl) rfl rfl ?_
                        go_simp
                        refine Onward.on hS (fun hS2 => ?_)
                        clear hS2
                        try simp only [Act.put, List.getElem_toArray, List.getElem_cons_succ, List.getElem_cons_zero, List.setIfInBounds_toArray, List.set_cons_zero, List.set_cons_succ]
                        refine AnyG.one (i := 15) (by kernel_rfl) rfl rfl ?_
                        obtain ⟨x0, x1, xf, xz⟩ := k13.two'
                        have hS0 := hS
                        go_simp
                        clear x0 x1 xf xz
                        have hSn := ((hS.setCell (p := ⟨qk13, 0, none⟩) hlk13 (.int .i64 a4)).setCell (p := ⟨qk13, 1, none⟩) hlk13 (.int .i64 a5))
                        clear hS
                        refine Onward.on hSn (fun hS => ?_)
                        try dsimp only at hS
                        clear hSn
                        try simp only [Act.put, List.getElem_toArray, List.getElem_cons_succ, List.getElem_cons_zero, List.setIfInBounds_toArray, List.set_cons_zero, List.set_cons_succ]
                        refine AnyG.one (i := 16) (by kernel_rfl) rfl rfl ?_
                        go_simp
                        refine Onward.last rfl ?_
                        try simp only [Act.put, List.getElem_toArray, List.getElem_cons_succ, List.getElem_cons_zero, List.setIfInBounds_toArray, List.set_cons_zero, List.set_cons_succ]
                        refine AnyG.done (by kernel_rfl) ?_ _
                        have f13 := (k13.set_ 0 (.int .i64 a4)).set_ 1 (.int .i64 a5)
                        simp only [List.setIfInBounds_toArray, List.set_cons_zero, List.set_cons_succ] at f13
                        have hBz := (hS0.setCell (p := ⟨qk13, 0, none⟩) hlk13 (.int .i64 a4)).setCell (p := ⟨qk13, 1, none⟩) hlk13 (.int .i64 a5)
                        go_simp
                        go_wp2_with fail
                        go_meet
                        exact ⟨qk13, rfl, rfl, rfl, f13, hBz⟩
                      · refine ⟨_, rfl, rfl, ?_⟩
                        go_simp
                        have hqk := bel1 y0 (.cells #[.int .i64 0, .int .i64 0] 41)
                        have k13 := Bx.new y0 41 #[.int .i64 0, .int .i64 0]
                        have hlk13 := hS.size
                        have hT := hS.trans (hqk.mono hS.size)
                        obtain ⟨z13, hy⟩ : ∃ x, y0.alloc (.cells #[.int .i64 0, .int .i64 0] 41) = x := ⟨_, rfl⟩
                        rw [hy] at hT k13 ⊢
                        obtain ⟨qk13, hbq⟩ : ∃ p, y0.heap.size = p := ⟨_, rfl⟩
                        rw [hbq] at k13 hlk13 ⊢
                        have ltk13 := k13.lt
                        clear hy hbq hqk
                        have hSn := hT
                        clear hS
                        refine Onward.on hSn (fun hS => ?_)
                        try dsimp only at hS
                        clear hSn
                        try simp only [Act.put, List.getElem_toArray, List.getElem_cons_succ, List.getElem_cons_zero, List.setIfInBounds_toArray, List.set_cons_zero, List.set_cons_succ]
                        refine AnyG.one (i := 8) (by kernel_rfl) rfl rfl ?_
                        go_simp
                        refine (refLevel_any v p A n c s _ HO.out.fit HO.out.lf (hPU.call hS).hV (hPU.call hS).hS HO.out.sl (by have := HO.out.n20; omega)).mono ?_
                        rintro e8 z8 ⟨rfl, hq8⟩
                        rw [HE2.out]
                        replace k13 := k13.call hq8
                        have ltk13 := k13.lt
                        have hSn := (hS.trans (hq8.mono hS.size))
                        clear hS
                        refine Onward.on hSn (fun hS => ?_)
                        try dsimp only at hS
                        clear hSn
                        try simp only [Act.put, List.getElem_toArray, List.getElem_cons_succ, List.getElem_cons_zero, List.setIfInBounds_toArray, List.set_cons_zero, List.set_cons_succ]
                        refine AnyG.takeC (i := 9) (v := ?_) rfl (by kernel_rfl) (fun _ _ _ h => h) rfl ?_ hS ?_
                        rotate_left
                        · (intro w' hSw; (try dsimp only at hSw); go_simp; try with_reducible rfl)
                        try simp only [Act.put, List.getElem_toArray, List.getElem_cons_succ, List.getElem_cons_zero, List.setIfInBounds_toArray, List.set_cons_zero, List.set_cons_succ]
                        refine AnyG.takeC (i := 10) (v := ?_) rfl (by kernel_rfl) (fun _ _ _ h => h) rfl ?_ hS ?_
                        rotate_left
                        · (intro w' hSw; (try dsimp only at hSw); go_simp; try with_reducible rfl)
                        try simp only [Act.put, List.getElem_toArray, List.getElem_cons_succ, List.getElem_cons_zero, List.setIfInBounds_toArray, List.set_cons_zero, List.set_cons_succ]
                        refine AnyG.takeC (i := 11) (v := ?_) rfl (by kernel_rfl) (fun _ _ _ h => h) rfl ?_ hS ?_
                        rotate_left
                        · (intro w' hSw; (try dsimp only at hSw); go_simp; try with_reducible rfl)
                        try simp only [Act.put, List.getElem_toArray, List.getElem_cons_succ, List.getElem_cons_zero, List.setIfInBounds_toArray, List.set_cons_zero, List.set_cons_succ]
                        refine AnyG.takeC (i := 12) (v := ?_) rfl (by kernel_rfl) (fun _ _ _ h => h) rfl ?_ hS ?_
                        rotate_left
                        · (intro w' hSw; (try dsimp only at hSw); go_simp; try with_reducible rfl)
                        try simp only [Act.put, List.getElem_toArray, List.getElem_cons_succ, List.getElem_cons_zero, List.setIfInBounds_toArray, List.set_cons_zero, List.set_cons_succ]
                        refine AnyG.one (i := 14) (by kernel_rfl) rfl rfl ?_
                        go_simp
                        refine Onward.on hS (fun hS2 => ?_)
                        clear hS2
                        try simp only [Act.put, List.getElem_toArray, List.getElem_cons_succ, List.getElem_cons_zero, List.setIfInBounds_toArray, List.set_cons_zero, List.set_cons_succ]
                        refine AnyG.one (i := 15) (by kernel_rfl) rfl rfl ?_
                        obtain ⟨x0, x1, xf, xz⟩ := k13.two'
                        have hS0 := hS
                        go_simp
                        clear x0 x1 xf xz
                        have hSn := ((hS.setCell (p := ⟨qk13, 0, none⟩) hlk13 (.int .i64 a4)).setCell (p := ⟨qk13, 1, none⟩) hlk13 (.int .i64 a5))
                        clear hS
                        refine Onward.on hSn (fun hS => ?_)
                        try dsimp only at hS
                        clear hSn
                        try simp only [Act.put, List.getElem_toArray, List.getElem_cons_succ, List.getElem_cons_zero, List.setIfInBounds_toArray, List.set_cons_zero, List.set_cons_succ]
                        refine AnyG.one (i := 16) (by kernel_rfl) rfl rfl ?_
                        go_simp
                        refine Onward.last rfl ?_
                        try simp only [Act.put, List.getElem_toArray, List.getElem_cons_succ, List.getElem_cons_zero, List.setIfInBounds_toArray, List.set_cons_zero, List.set_cons_succ]
                        refine AnyG.done (by kernel_rfl) ?_ _
                        have f13 := (k13.set_ 0 (.int .i64 a4)).set_ 1 (.int .i64 a5)
                        simp only [List.setIfInBounds_toArray, List.set_cons_zero, List.set_cons_succ] at f13
                        have hBz := (hS0.setCell (p := ⟨qk13, 0, none⟩) hlk13 (.int .i64 a4)).setCell (p := ⟨qk13, 1, none⟩) hlk13 (.int .i64 a5)
                        go_simp
                        go_wp2_with fail
                        go_meet
                        exact ⟨qk13, rfl, rfl, rfl, f13, hBz⟩
                  case rest =>
                    obtain ⟨q30, rfl, rfl, rfl, k30, hBU⟩ := hcut
                    replace hBW := hBW.trans (hBU.mono hBW.size)
                    replace hPU := hPU.call hBU
                    replace kq := kq.call hBU
                    replace k20 := k20.call hBU
                    replace k21 := k21.call hBU
                    replace k23 := k23.call hBU
                    replace k24 := k24.call hBU
                    replace k27 := k27.call hBU
                    replace hVo := hVo.call hBU
                    replace hSB := (hSB.below hBU).more hBU.size
                    clear hBU
                    obtain ⟨U, hU⟩ : ∃ U, U = wc := ⟨_, rfl⟩
                    subst hU
                    go_upto_region 18 with fail
                    go_cut [180] from 72 to 196 (fun v180 x => v180 = .bool false ∧ Below U.heap.size U x)
                    case first =>
                      as_aux_lemma =>
                        refine AnyG.startC (by as_aux_lemma => kernel_rfl) ?_
                        refine AnyG.takeP (i := 2) (v := ?_) rfl (by as_aux_lemma => kernel_rfl) (fun _ _ _ h => h) rfl ?_ ?_
                        rotate_left
                        · (intro w'; go_simp; try with_reducible rfl)
                        try simp only [Act.put, List.getElem_toArray, List.getElem_cons_succ, List.getElem_cons_zero, List.setIfInBounds_toArray, List.set_cons_zero, List.set_cons_succ]
                        refine AnyG.takeP (i := 3) (v := ?_) rfl (by as_aux_lemma => kernel_rfl) (fun _ _ _ h => h) rfl ?_ ?_
                        rotate_left
                        · (intro w'; go_simp; try with_reducible rfl)
                        try simp only [Act.put, List.getElem_toArray, List.getElem_cons_succ, List.getElem_cons_zero, List.setIfInBounds_toArray, List.set_cons_zero, List.set_cons_succ]
                        refine AnyG.takeP (i := 4) (v := ?_) rfl (by as_aux_lemma => kernel_rfl) (fun _ _ _ h => h) rfl ?_ ?_
                        rotate_left
                        · (intro w'; go_simp; try with_reducible rfl)
                        try simp only [Act.put, List.getElem_toArray, List.getElem_cons_succ, List.getElem_cons_zero, List.setIfInBounds_toArray, List.set_cons_zero, List.set_cons_succ]
                        refine AnyG.enter (fun w' : World => Below U.heap.size U w') (fun i => true) ?_
                        have hS : (fun w' : World => Below U.heap.size U w') (World.drew _) := (Below.refl _ _).drew
                        refine AnyG.takeC (i := 0) (v := ?_) rfl (by as_aux_lemma => kernel_rfl) (fun _ _ _ h => h) rfl ?_ hS ?_
                        rotate_left
                        · (intro w' hSw; (try dsimp only at hSw); obtain ⟨x0, x1, x2, x3, x4, x5, x6, xf, xz⟩ := (kq.call hSw).seven; go_simp; try with_reducible rfl)
                        try simp only [Act.put, List.getElem_toArray, List.getElem_cons_succ, List.getElem_cons_zero, List.setIfInBounds_toArray, List.set_cons_zero, List.set_cons_succ]
                        refine AnyG.takeC (i := 5) (v := ?_) rfl (by as_aux_lemma => kernel_rfl) (fun _ _ _ h => h) rfl ?_ hS ?_
                        rotate_left
                        · (intro w' hSw; (try dsimp only at hSw); have hp := hPU.call hSw; have c0 := hp.c0; have c1 := hp.c1; have c2 := hp.c2; have c3 := hp.c3; have c4 := hp.c4; have c5 := hp.c5; have c6 := hp.c6; go_simp; try with_reducible rfl)
                        try simp only [Act.put, List.getElem_toArray, List.getElem_cons_succ, List.getElem_cons_zero, List.setIfInBounds_toArray, List.set_cons_zero, List.set_cons_succ]
                        refine AnyG.one (i := 1) (by as_aux_lemma => kernel_rfl) rfl rfl ?_
                        go_simp
                        refine (check_any v ⟨HA, p.hn, hc, SA, p.sn, sc, LA, p.ln, lc⟩ _ HO.out.fitq HO.out.lf (hVo.call hS)).mono ?_
                        rintro e1 y1 ⟨rfl, hb1⟩
                        refine Onward.on (hS.trans (hb1.mono hS.size)) (fun hS2 => ?_)
                        clear hS
                        have hS := hS2
                        clear hS2
                        try simp only [Act.put, List.getElem_toArray, List.getElem_cons_succ, List.getElem_cons_zero, List.setIfInBounds_toArray, List.set_cons_zero, List.set_cons_succ]
                        refine AnyG.one (i := 6) (by as_aux_lemma => kernel_rfl) rfl rfl ?_
                        go_simp
                        refine (refCheck_any v p _ HO.out.fit HO.out.lf (hPU.call hS).hV).mono ?_
                        rintro e6 y6 ⟨rfl, hb6⟩
                        refine Onward.on (hS.trans (hb6.mono hS.size)) (fun hS2 => ?_)
                        clear hS
                        have hS := hS2
                        clear hS2
                        try simp only [Act.put, List.getElem_toArray, List.getElem_cons_succ, List.getElem_cons_zero, List.setIfInBounds_toArray, List.set_cons_zero, List.set_cons_succ]
                        refine AnyG.takeC (i := 7) (v := ?_) rfl (by as_aux_lemma => kernel_rfl) (fun _ _ _ h => h) rfl ?_ hS ?_
                        rotate_left
                        · (intro w' hSw; (try dsimp only at hSw); go_simp; try with_reducible rfl)
                        try simp only [Act.put, List.getElem_toArray, List.getElem_cons_succ, List.getElem_cons_zero, List.setIfInBounds_toArray, List.set_cons_zero, List.set_cons_succ]
                        refine AnyG.takeC (i := 8) (v := ?_) rfl (by as_aux_lemma => kernel_rfl) (fun _ _ _ h => h) rfl ?_ hS ?_
                        rotate_left
                        · (intro w' hSw; (try dsimp only at hSw); go_simp; try with_reducible rfl)
                        try simp only [Act.put, List.getElem_toArray, List.getElem_cons_succ, List.getElem_cons_zero, List.setIfInBounds_toArray, List.set_cons_zero, List.set_cons_succ]
                        refine AnyG.takeGC (i := 9) (v := ?_) rfl (by as_aux_lemma => kernel_rfl) (fun _ _ _ h => h) (by first | (simp [Region.wanted, yielded]; done) | simp [Region.wanted, yielded, undef]) ?_ hS ?_
                        rotate_left
                        · (intro w' hSw; (try dsimp only at hSw); obtain ⟨x0, x1, x2, x3, x4, x5, x6, xf, xz⟩ := (kq.call hSw).seven; go_simp; try with_reducible rfl)
                        try simp only [Act.put, List.getElem_toArray, List.getElem_cons_succ, List.getElem_cons_zero, List.setIfInBounds_toArray, List.set_cons_zero, List.set_cons_succ]
                        refine AnyG.takeGC (i := 10) (v := ?_) rfl (by as_aux_lemma => kernel_rfl) (fun _ _ _ h => h) (by first | (simp [Region.wanted, yielded]; done) | simp [Region.wanted, yielded, undef]) ?_ hS ?_
                        rotate_left
                        · (intro w' hSw; (try dsimp only at hSw); go_simp; try with_reducible rfl)
                        try simp only [Act.put, List.getElem_toArray, List.getElem_cons_succ, List.getElem_cons_zero, List.setIfInBounds_toArray, List.set_cons_zero, List.set_cons_succ]
                        refine AnyG.takeGC (i := 12) (v := ?_) rfl (by as_aux_lemma => kernel_rfl) (fun _ _ _ h => h) (by first | (simp [Region.wanted, yielded]; done) | simp [Region.wanted, yielded, undef]) ?_ hS ?_
                        rotate_left
                        · (intro w' hSw; (try dsimp only at hSw); go_simp; try with_reducible rfl)
                        try simp only [Act.put, List.getElem_toArray, List.getElem_cons_succ, List.getElem_cons_zero, List.setIfInBounds_toArray, List.set_cons_zero, List.set_cons_succ]
                        refine AnyG.takeGC (i := 13) (v := ?_) rfl (by as_aux_lemma => kernel_rfl) (fun _ _ _ h => h) (by first | (simp [Region.wanted, yielded]; done) | simp [Region.wanted, yielded, undef]) ?_ hS ?_
                        rotate_left
                        · (intro w' hSw; (try dsimp only at hSw); go_simp; try with_reducible rfl)
                        try simp only [Act.put, List.getElem_toArray, List.getElem_cons_succ, List.getElem_cons_zero, List.setIfInBounds_toArray, List.set_cons_zero, List.set_cons_succ]
                        refine AnyG.takeGC (i := 14) (v := ?_) rfl (by as_aux_lemma => kernel_rfl) (fun _ _ _ h => h) (by first | (simp [Region.wanted, yielded]; done) | simp [Region.wanted, yielded, undef]) ?_ hS ?_
                        rotate_left
                        · (intro w' hSw; (try dsimp only at hSw); go_simp; try with_reducible rfl)
                        try simp only [Act.put, List.getElem_toArray, List.getElem_cons_succ, List.getElem_cons_zero, List.setIfInBounds_toArray, List.set_cons_zero, List.set_cons_succ]
                        refine AnyG.takeGC (i := 15) (v := ?_) rfl (by as_aux_lemma => kernel_rfl) (fun _ _ _ h => h) (by first | (simp [Region.wanted, yielded]; done) | simp [Region.wanted, yielded, undef]) ?_ hS ?_
                        rotate_left
                        · (intro w' hSw; (try dsimp only at hSw); have hp := hPU.call hSw; have c0 := hp.c0; have c1 := hp.c1; have c2 := hp.c2; have c3 := hp.c3; have c4 := hp.c4; have c5 := hp.c5; have c6 := hp.c6; go_simp; try with_reducible rfl)
                        try simp only [Act.put, List.getElem_toArray, List.getElem_cons_succ, List.getElem_cons_zero, List.setIfInBounds_toArray, List.set_cons_zero, List.set_cons_succ]
                        refine AnyG.takeGC (i := 16) (v := ?_) rfl (by as_aux_lemma => kernel_rfl) (fun _ _ _ h => h) (by first | (simp [Region.wanted, yielded]; done) | simp [Region.wanted, yielded, undef]) ?_ hS ?_
                        rotate_left
                        · (intro w' hSw; (try dsimp only at hSw); go_simp; try with_reducible rfl)
                        try simp only [Act.put, List.getElem_toArray, List.getElem_cons_succ, List.getElem_cons_zero, List.setIfInBounds_toArray, List.set_cons_zero, List.set_cons_succ]
                        refine AnyG.takeGC (i := 17) (v := ?_) rfl (by as_aux_lemma => kernel_rfl) (fun _ _ _ h => h) (by first | (simp [Region.wanted, yielded]; done) | simp [Region.wanted, yielded, undef]) ?_ hS ?_
                        rotate_left
                        · (intro w' hSw; (try dsimp only at hSw); go_simp; try with_reducible rfl)
                        try simp only [Act.put, List.getElem_toArray, List.getElem_cons_succ, List.getElem_cons_zero, List.setIfInBounds_toArray, List.set_cons_zero, List.set_cons_succ]
                        refine AnyG.takeGC (i := 18) (v := ?_) rfl (by as_aux_lemma => kernel_rfl) (fun _ _ _ h => h) (by first | (simp [Region.wanted, yielded]; done) | simp [Region.wanted, yielded, undef]) ?_ hS ?_
                        rotate_left
                        · (intro w' hSw; (try dsimp only at hSw); go_simp; try with_reducible rfl)
                        try simp only [Act.put, List.getElem_toArray, List.getElem_cons_succ, List.getElem_cons_zero, List.setIfInBounds_toArray, List.set_cons_zero, List.set_cons_succ]
                        refine AnyG.takeGC (i := 19) (v := ?_) rfl (by as_aux_lemma => kernel_rfl) (fun _ _ _ h => h) (by first | (simp [Region.wanted, yielded]; done) | simp [Region.wanted, yielded, undef]) ?_ hS ?_
                        rotate_left
                        · (intro w' hSw; (try dsimp only at hSw); have b0 := (hPU.call hSw).b0; go_simp; try with_reducible rfl)
                        try simp only [Act.put, List.getElem_toArray, List.getElem_cons_succ, List.getElem_cons_zero, List.setIfInBounds_toArray, List.set_cons_zero, List.set_cons_succ]
                        refine AnyG.oneC (i := 11) (by as_aux_lemma => kernel_rfl) rfl (by first | (simp [Region.wanted, yielded]; done) | simp [Region.wanted, yielded, undef]) ?_
                        go_simp
                        refine (checkStowage_any v ⟨HA, p.hn, hc, SA, p.sn, sc, LA, p.ln, lc⟩ B n d s _ HO.out.fitq HO.out.lf (hVo.call hS) ((hSB.below hS).more hS.size) HO.out.sl (by have := HO.out.n20; omega)).mono ?_
                        rintro e11 y11 ⟨rfl, hb11⟩
                        refine Onward.on (hS.trans (hb11.mono hS.size)) (fun hS2 => ?_)
                        clear hS
                        have hS := hS2
                        clear hS2
                        try simp only [Act.put, List.getElem_toArray, List.getElem_cons_succ, List.getElem_cons_zero, List.setIfInBounds_toArray, List.set_cons_zero, List.set_cons_succ]
                        refine AnyG.oneC (i := 20) (by as_aux_lemma => kernel_rfl) rfl (by first | (simp [Region.wanted, yielded]; done) | simp [Region.wanted, yielded, undef]) ?_
                        go_simp
                        refine (refCheckStowage_any v p A n c s _ HO.out.fit HO.out.lf (hPU.call hS).hV (hPU.call hS).hS HO.out.sl (by have := HO.out.n20; omega)).mono ?_
                        rintro e20 y20 ⟨rfl, hb20⟩
                        refine Onward.on (hS.trans (hb20.mono hS.size)) (fun hS2 => ?_)
                        clear hS
                        have hS := hS2
                        clear hS2
                        try simp only [Act.put, List.getElem_toArray, List.getElem_cons_succ, List.getElem_cons_zero, List.setIfInBounds_toArray, List.set_cons_zero, List.set_cons_succ]
                        refine AnyG.takeGC (i := 21) (v := ?_) rfl (by as_aux_lemma => kernel_rfl) (fun _ _ _ h => h) (by first | (simp [Region.wanted, yielded]; done) | simp [Region.wanted, yielded, undef]) ?_ hS ?_
                        rotate_left
                        · (intro w' hSw; (try dsimp only at hSw); go_simp; try with_reducible rfl)
                        try simp only [Act.put, List.getElem_toArray, List.getElem_cons_succ, List.getElem_cons_zero, List.setIfInBounds_toArray, List.set_cons_zero, List.set_cons_succ]
                        refine AnyG.takeC (i := 22) (v := ?_) rfl (by as_aux_lemma => kernel_rfl) (fun _ _ _ h => h) rfl ?_ hS ?_
                        rotate_left
                        · (intro w' hSw; (try dsimp only at hSw); go_simp; try with_reducible rfl)
                        try simp only [Act.put, List.getElem_toArray, List.getElem_cons_succ, List.getElem_cons_zero, List.setIfInBounds_toArray, List.set_cons_zero, List.set_cons_succ]
                        refine AnyG.takeC (i := 23) (v := ?_) rfl (by as_aux_lemma => kernel_rfl) (fun _ _ _ h => h) rfl ?_ hS ?_
                        rotate_left
                        · (intro w' hSw; (try dsimp only at hSw); go_simp; try with_reducible rfl)
                        try simp only [Act.put, List.getElem_toArray, List.getElem_cons_succ, List.getElem_cons_zero, List.setIfInBounds_toArray, List.set_cons_zero, List.set_cons_succ]
                        refine AnyG.takeGC (i := 24) (v := ?_) rfl (by as_aux_lemma => kernel_rfl) (fun _ _ _ h => h) (by first | (simp [Region.wanted, yielded]; done) | simp [Region.wanted, yielded, undef]) ?_ hS ?_
                        rotate_left
                        · (intro w' hSw; (try dsimp only at hSw); obtain ⟨x0, x1, xf, xz⟩ := (k20.call hSw).two'; go_simp; try with_reducible rfl)
                        try simp only [Act.put, List.getElem_toArray, List.getElem_cons_succ, List.getElem_cons_zero, List.setIfInBounds_toArray, List.set_cons_zero, List.set_cons_succ]
                        refine AnyG.takeGC (i := 25) (v := ?_) rfl (by as_aux_lemma => kernel_rfl) (fun _ _ _ h => h) (by first | (simp [Region.wanted, yielded]; done) | simp [Region.wanted, yielded, undef]) ?_ hS ?_
                        rotate_left
                        · (intro w' hSw; (try dsimp only at hSw); obtain ⟨x0, x1, xf, xz⟩ := (k23.call hSw).two'; go_simp; try with_reducible rfl)
                        try simp only [Act.put, List.getElem_toArray, List.getElem_cons_succ, List.getElem_cons_zero, List.setIfInBounds_toArray, List.set_cons_zero, List.set_cons_succ]
                        refine AnyG.takeGC (i := 26) (v := ?_) rfl (by as_aux_lemma => kernel_rfl) (fun _ _ _ h => h) (by first | (simp [Region.wanted, yielded]; done) | simp [Region.wanted, yielded, undef]) ?_ hS ?_
                        rotate_left
                        · (intro w' hSw; (try dsimp only at hSw); go_simp; try with_reducible rfl)
                        try simp only [Act.put, List.getElem_toArray, List.getElem_cons_succ, List.getElem_cons_zero, List.setIfInBounds_toArray, List.set_cons_zero, List.set_cons_succ]
                        refine AnyG.takeC (i := 27) (v := ?_) rfl (by as_aux_lemma => kernel_rfl) (fun _ _ _ h => h) rfl ?_ hS ?_
                        rotate_left
                        · (intro w' hSw; (try dsimp only at hSw); go_simp; try with_reducible rfl)
                        try simp only [Act.put, List.getElem_toArray, List.getElem_cons_succ, List.getElem_cons_zero, List.setIfInBounds_toArray, List.set_cons_zero, List.set_cons_succ]
                        refine AnyG.takeC (i := 28) (v := ?_) rfl (by as_aux_lemma => kernel_rfl) (fun _ _ _ h => h) rfl ?_ hS ?_
                        rotate_left
                        · (intro w' hSw; (try dsimp only at hSw); go_simp; try with_reducible rfl)
                        try simp only [Act.put, List.getElem_toArray, List.getElem_cons_succ, List.getElem_cons_zero, List.setIfInBounds_toArray, List.set_cons_zero, List.set_cons_succ]
                        refine AnyG.takeGC (i := 29) (v := ?_) rfl (by as_aux_lemma => kernel_rfl) (fun _ _ _ h => h) (by first | (simp [Region.wanted, yielded]; done) | simp [Region.wanted, yielded, undef]) ?_ hS ?_
                        rotate_left
                        · (intro w' hSw; (try dsimp only at hSw); obtain ⟨x0, x1, xf, xz⟩ := (k21.call hSw).two'; go_simp; try with_reducible rfl)
                        try simp only [Act.put, List.getElem_toArray, List.getElem_cons_succ, List.getElem_cons_zero, List.setIfInBounds_toArray, List.set_cons_zero, List.set_cons_succ]
                        refine AnyG.takeGC (i := 30) (v := ?_) rfl (by as_aux_lemma => kernel_rfl) (fun _ _ _ h => h) (by first | (simp [Region.wanted, yielded]; done) | simp [Region.wanted, yielded, undef]) ?_ hS ?_
                        rotate_left
                        · (intro w' hSw; (try dsimp only at hSw); obtain ⟨x0, x1, xf, xz⟩ := (k24.call hSw).two'; go_simp; try with_reducible rfl)
                        try simp only [Act.put, List.getElem_toArray, List.getElem_cons_succ, List.getElem_cons_zero, List.setIfInBounds_toArray, List.set_cons_zero, List.set_cons_succ]
                        refine AnyG.takeGC (i := 31) (v := ?_) rfl (by as_aux_lemma => kernel_rfl) (fun _ _ _ h => h) (by first | (simp [Region.wanted, yielded]; done) | simp [Region.wanted, yielded, undef]) ?_ hS ?_
                        rotate_left
                        · (intro w' hSw; (try dsimp only at hSw); go_simp; try with_reducible rfl)
                        try simp only [Act.put, List.getElem_toArray, List.getElem_cons_succ, List.getElem_cons_zero, List.setIfInBounds_toArray, List.set_cons_zero, List.set_cons_succ]
                        refine AnyG.takeC (i := 32) (v := ?_) rfl (by as_aux_lemma => kernel_rfl) (fun _ _ _ h => h) rfl ?_ hS ?_
                        rotate_left
                        · (intro w' hSw; (try dsimp only at hSw); go_simp; try with_reducible rfl)
                        try simp only [Act.put, List.getElem_toArray, List.getElem_cons_succ, List.getElem_cons_zero, List.setIfInBounds_toArray, List.set_cons_zero, List.set_cons_succ]
                        refine AnyG.takeC (i := 33) (v := ?_) rfl (by as_aux_lemma => kernel_rfl) (fun _ _ _ h => h) rfl ?_ hS ?_
                        rotate_left
                        · (intro w' hSw; (try dsimp only at hSw); go_simp; try with_reducible rfl)
                        try simp only [Act.put, List.getElem_toArray, List.getElem_cons_succ, List.getElem_cons_zero, List.setIfInBounds_toArray, List.set_cons_zero, List.set_cons_succ]
                        refine AnyG.takeGC (i := 34) (v := ?_) rfl (by as_aux_lemma => kernel_rfl) (fun _ _ _ h => h) (by first | (simp [Region.wanted, yielded]; done) | simp [Region.wanted, yielded, undef]) ?_ hS ?_
                        rotate_left
                        · (intro w' hSw; (try dsimp only at hSw); go_simp; try with_reducible rfl)
                        try simp only [Act.put, List.getElem_toArray, List.getElem_cons_succ, List.getElem_cons_zero, List.setIfInBounds_toArray, List.set_cons_zero, List.set_cons_succ]
                        refine AnyG.takeGC (i := 35) (v := ?_) rfl (by as_aux_lemma => kernel_rfl) (fun _ _ _ h => h) (by first | (simp [Region.wanted, yielded]; done) | simp [Region.wanted, yielded, undef]) ?_ hS ?_
                        rotate_left
                        · (intro w' hSw; (try dsimp only at hSw); go_simp; try with_reducible rfl)
                        try simp only [Act.put, List.getElem_toArray, List.getElem_cons_succ, List.getElem_cons_zero, List.setIfInBounds_toArray, List.set_cons_zero, List.set_cons_succ]
                        refine AnyG.takeGC (i := 36) (v := ?_) rfl (by as_aux_lemma => kernel_rfl) (fun _ _ _ h => h) (by first | (simp [Region.wanted, yielded]; done) | simp [Region.wanted, yielded, undef]) ?_ hS ?_
                        rotate_left
                        · (intro w' hSw; (try dsimp only at hSw); go_simp; try with_reducible rfl)
                        try simp only [Act.put, List.getElem_toArray, List.getElem_cons_succ, List.getElem_cons_zero, List.setIfInBounds_toArray, List.set_cons_zero, List.set_cons_succ]
                        refine AnyG.takeC (i := 37) (v := ?_) rfl (by as_aux_lemma => kernel_rfl) (fun _ _ _ h => h) rfl ?_ hS ?_
                        rotate_left
                        · (intro w' hSw; (try dsimp only at hSw); go_simp; try with_reducible rfl)
                        try simp only [Act.put, List.getElem_toArray, List.getElem_cons_succ, List.getElem_cons_zero, List.setIfInBounds_toArray, List.set_cons_zero, List.set_cons_succ]
                        refine AnyG.takeC (i := 38) (v := ?_) rfl (by as_aux_lemma => kernel_rfl) (fun _ _ _ h => h) rfl ?_ hS ?_
                        rotate_left
                        · (intro w' hSw; (try dsimp only at hSw); go_simp; try with_reducible rfl)
                        try simp only [Act.put, List.getElem_toArray, List.getElem_cons_succ, List.getElem_cons_zero, List.setIfInBounds_toArray, List.set_cons_zero, List.set_cons_succ]
                        refine AnyG.takeGC (i := 39) (v := ?_) rfl (by as_aux_lemma => kernel_rfl) (fun _ _ _ h => h) (by first | (simp [Region.wanted, yielded]; done) | simp [Region.wanted, yielded, undef]) ?_ hS ?_
                        rotate_left
                        · (intro w' hSw; (try dsimp only at hSw); go_simp; try with_reducible rfl)
                        try simp only [Act.put, List.getElem_toArray, List.getElem_cons_succ, List.getElem_cons_zero, List.setIfInBounds_toArray, List.set_cons_zero, List.set_cons_succ]
                        refine AnyG.takeGC (i := 40) (v := ?_) rfl (by as_aux_lemma => kernel_rfl) (fun _ _ _ h => h) (by first | (simp [Region.wanted, yielded]; done) | simp [Region.wanted, yielded, undef]) ?_ hS ?_
                        rotate_left
                        · (intro w' hSw; (try dsimp only at hSw); go_simp; try with_reducible rfl)
                        try simp only [Act.put, List.getElem_toArray, List.getElem_cons_succ, List.getElem_cons_zero, List.setIfInBounds_toArray, List.set_cons_zero, List.set_cons_succ]
                        refine AnyG.takeGC (i := 41) (v := ?_) rfl (by as_aux_lemma => kernel_rfl) (fun _ _ _ h => h) (by first | (simp [Region.wanted, yielded]; done) | simp [Region.wanted, yielded, undef]) ?_ hS ?_
                        rotate_left
                        · (intro w' hSw; (try dsimp only at hSw); go_simp; try with_reducible rfl)
                        try simp only [Act.put, List.getElem_toArray, List.getElem_cons_succ, List.getElem_cons_zero, List.setIfInBounds_toArray, List.set_cons_zero, List.set_cons_succ]
                        refine AnyG.takeC (i := 42) (v := ?_) rfl (by as_aux_lemma => kernel_rfl) (fun _ _ _ h => h) rfl ?_ hS ?_
                        rotate_left
                        · (intro w' hSw; (try dsimp only at hSw); go_simp; try with_reducible rfl)
                        try simp only [Act.put, List.getElem_toArray, List.getElem_cons_succ, List.getElem_cons_zero, List.setIfInBounds_toArray, List.set_cons_zero, List.set_cons_succ]
                        refine AnyG.takeC (i := 43) (v := ?_) rfl (by as_aux_lemma => kernel_rfl) (fun _ _ _ h => h) rfl ?_ hS ?_
                        rotate_left
                        · (intro w' hSw; (try dsimp only at hSw); go_simp; try with_reducible rfl)
                        try simp only [Act.put, List.getElem_toArray, List.getElem_cons_succ, List.getElem_cons_zero, List.setIfInBounds_toArray, List.set_cons_zero, List.set_cons_succ]
                        refine AnyG.takeGC (i := 44) (v := ?_) rfl (by as_aux_lemma => kernel_rfl) (fun _ _ _ h => h) (by first | (simp [Region.wanted, yielded]; done) | simp [Region.wanted, yielded, undef]) ?_ hS ?_
                        rotate_left
                        · (intro w' hSw; (try dsimp only at hSw); obtain ⟨x0, x1, xf, xz⟩ := (k27.call hSw).two'; go_simp; try with_reducible rfl)
                        try simp only [Act.put, List.getElem_toArray, List.getElem_cons_succ, List.getElem_cons_zero, List.setIfInBounds_toArray, List.set_cons_zero, List.set_cons_succ]
                        refine AnyG.takeGC (i := 45) (v := ?_) rfl (by as_aux_lemma => kernel_rfl) (fun _ _ _ h => h) (by first | (simp [Region.wanted, yielded]; done) | simp [Region.wanted, yielded, undef]) ?_ hS ?_
                        rotate_left
                        · (intro w' hSw; (try dsimp only at hSw); obtain ⟨x0, x1, xf, xz⟩ := (k30.call hSw).two'; go_simp; try with_reducible rfl)
                        try simp only [Act.put, List.getElem_toArray, List.getElem_cons_succ, List.getElem_cons_zero, List.setIfInBounds_toArray, List.set_cons_zero, List.set_cons_succ]
                        refine AnyG.takeGC (i := 46) (v := ?_) rfl (by as_aux_lemma => kernel_rfl) (fun _ _ _ h => h) (by first | (simp [Region.wanted, yielded]; done) | simp [Region.wanted, yielded, undef]) ?_ hS ?_
                        rotate_left
                        · (intro w' hSw; (try dsimp only at hSw); go_simp; try with_reducible rfl)
                        try simp only [Act.put, List.getElem_toArray, List.getElem_cons_succ, List.getElem_cons_zero, List.setIfInBounds_toArray, List.set_cons_zero, List.set_cons_succ]
                        refine AnyG.takeC (i := 47) (v := ?_) rfl (by as_aux_lemma => kernel_rfl) (fun _ _ _ h => h) rfl ?_ hS ?_
                        rotate_left
                        · (intro w' hSw; (try dsimp only at hSw); go_simp; try with_reducible rfl)
                        try simp only [Act.put, List.getElem_toArray, List.getElem_cons_succ, List.getElem_cons_zero, List.setIfInBounds_toArray, List.set_cons_zero, List.set_cons_succ]
                        refine AnyG.takeC (i := 48) (v := ?_) rfl (by as_aux_lemma => kernel_rfl) (fun _ _ _ h => h) rfl ?_ hS ?_
                        rotate_left
                        · (intro w' hSw; (try dsimp only at hSw); go_simp; try with_reducible rfl)
                        try simp only [Act.put, List.getElem_toArray, List.getElem_cons_succ, List.getElem_cons_zero, List.setIfInBounds_toArray, List.set_cons_zero, List.set_cons_succ]
                        refine AnyG.takeGC (i := 49) (v := ?_) rfl (by as_aux_lemma => kernel_rfl) (fun _ _ _ h => h) (by first | (simp [Region.wanted, yielded]; done) | simp [Region.wanted, yielded, undef]) ?_ hS ?_
                        rotate_left
                        · (intro w' hSw; (try dsimp only at hSw); go_simp; try with_reducible rfl)
                        try simp only [Act.put, List.getElem_toArray, List.getElem_cons_succ, List.getElem_cons_zero, List.setIfInBounds_toArray, List.set_cons_zero, List.set_cons_succ]
                        refine AnyG.takeGC (i := 50) (v := ?_) rfl (by as_aux_lemma => kernel_rfl) (fun _ _ _ h => h) (by first | (simp [Region.wanted, yielded]; done) | simp [Region.wanted, yielded, undef]) ?_ hS ?_
                        rotate_left
                        · (intro w' hSw; (try dsimp only at hSw); go_simp; try with_reducible rfl)
                        try simp only [Act.put, List.getElem_toArray, List.getElem_cons_succ, List.getElem_cons_zero, List.setIfInBounds_toArray, List.set_cons_zero, List.set_cons_succ]
                        refine AnyG.takeGC (i := 51) (v := ?_) rfl (by as_aux_lemma => kernel_rfl) (fun _ _ _ h => h) (by first | (simp [Region.wanted, yielded]; done) | simp [Region.wanted, yielded, undef]) ?_ hS ?_
                        rotate_left
                        · (intro w' hSw; (try dsimp only at hSw); go_simp; try with_reducible rfl)
                        try simp only [Act.put, List.getElem_toArray, List.getElem_cons_succ, List.getElem_cons_zero, List.setIfInBounds_toArray, List.set_cons_zero, List.set_cons_succ]
                        refine AnyG.takeC (i := 52) (v := ?_) rfl (by as_aux_lemma => kernel_rfl) (fun _ _ _ h => h) rfl ?_ hS ?_
                        rotate_left
                        · (intro w' hSw; (try dsimp only at hSw); go_simp; try with_reducible rfl)
                        try simp only [Act.put, List.getElem_toArray, List.getElem_cons_succ, List.getElem_cons_zero, List.setIfInBounds_toArray, List.set_cons_zero, List.set_cons_succ]
                        refine AnyG.done (by as_aux_lemma => kernel_rfl) ?_ _
                        go_simp
                        go_wp2_with fail
                        go_meet
                        exact ⟨rfl, hS⟩
                    case rest =>
                      obtain ⟨rfl, hBU⟩ := hcut
                      replace hBW := hBW.trans (hBU.mono hBW.size)
                      replace hPU := hPU.call hBU
                      replace kq := kq.call hBU
                      replace hVo := hVo.call hBU
                      replace hSB := (hSB.below hBU).more hBU.size
                      clear hBU k20 k21 k23 k24 k27 k30
                      obtain ⟨U, hU⟩ : ∃ U, U = wc := ⟨_, rfl⟩
                      subst hU
                      go_wp2_with fail
                      as_aux_lemma =>
                        refine AnyG.startC (by kernel_rfl) ?_
                        refine AnyG.takeP (i := 1) (v := ?_) rfl (by kernel_rfl) (fun _ _ _ h => h) rfl ?_ ?_
                        rotate_left
                        · (intro w'; go_simp; try with_reducible rfl)
                        try simp only [Act.put, List.getElem_toArray, List.getElem_cons_succ, List.getElem_cons_zero, List.setIfInBounds_toArray, List.set_cons_zero, List.set_cons_succ]
                        refine AnyG.takeP (i := 2) (v := ?_) rfl (by kernel_rfl) (fun _ _ _ h => h) rfl ?_ ?_
                        rotate_left
                        · (intro w'; go_simp; try with_reducible rfl)
                        try simp only [Act.put, List.getElem_toArray, List.getElem_cons_succ, List.getElem_cons_zero, List.setIfInBounds_toArray, List.set_cons_zero, List.set_cons_succ]
                        refine AnyG.takeP (i := 3) (v := ?_) rfl (by kernel_rfl) (fun _ _ _ h => h) rfl ?_ ?_
                        rotate_left
                        · (intro w'; go_simp; try with_reducible rfl)
                        try simp only [Act.put, List.getElem_toArray, List.getElem_cons_succ, List.getElem_cons_zero, List.setIfInBounds_toArray, List.set_cons_zero, List.set_cons_succ]
                        refine AnyG.enter (fun w' : World => Below U.heap.size U w') (fun i => true) ?_
                        have hS : (fun w' : World => Below U.heap.size U w') (World.drew _) := (Below.refl _ _).drew
                        refine AnyG.takeC (i := 0) (v := ?_) rfl (by kernel_rfl) (fun _ _ _ h => h) rfl ?_ hS ?_
                        rotate_left
                        · (intro w' hSw; (try dsimp only at hSw); obtain ⟨x0, x1, x2, x3, x4, x5, x6, xf, xz⟩ := (kq.call hSw).seven; go_simp; try with_reducible rfl)
                        try simp only [Act.put, List.getElem_toArray, List.getElem_cons_succ, List.getElem_cons_zero, List.setIfInBounds_toArray, List.set_cons_zero, List.set_cons_succ]
                        refine AnyG.takeC (i := 4) (v := ?_) rfl (by kernel_rfl) (fun _ _ _ h => h) rfl ?_ hS ?_
                        rotate_left
                        · (intro w' hSw; (try dsimp only at hSw); have hp := hPU.call hSw; have c0 := hp.c0; have c1 := hp.c1; have c2 := hp.c2; have c3 := hp.c3; have c4 := hp.c4; have c5 := hp.c5; have c6 := hp.c6; go_simp; try with_reducible rfl)
                        try simp only [Act.put, List.getElem_toArray, List.getElem_cons_succ, List.getElem_cons_zero, List.setIfInBounds_toArray, List.set_cons_zero, List.set_cons_succ]
                        refine AnyG.one (i := 5) (by kernel_rfl) rfl rfl ?_
                        go_simp
                        refine (equalVoyages_same v HA p.hn hc SA p.sn sc LA p.ln lc p.HA p.hc p.SA p.sc p.LA p.lc _ HO.out.slim (hVo.call hS) (hPU.call hS).hV).mono ?_
                        rintro e5 y5 ⟨rfl, hb5⟩
                        refine Onward.on (hS.trans (hb5.mono hS.size)) (fun hS2 => ?_)
                        clear hS
                        have hS := hS2
                        clear hS2
                        try simp only [Act.put, List.getElem_toArray, List.getElem_cons_succ, List.getElem_cons_zero, List.setIfInBounds_toArray, List.set_cons_zero, List.set_cons_succ]
                        refine AnyG.takeC (i := 6) (v := ?_) rfl (by kernel_rfl) (fun _ _ _ h => h) rfl ?_ hS ?_
                        rotate_left
                        · (intro w' hSw; (try dsimp only at hSw); go_simp; try with_reducible rfl)
                        try simp only [Act.put, List.getElem_toArray, List.getElem_cons_succ, List.getElem_cons_zero, List.setIfInBounds_toArray, List.set_cons_zero, List.set_cons_succ]
                        refine AnyG.takeC (i := 7) (v := ?_) rfl (by kernel_rfl) (fun _ _ _ h => h) rfl ?_ hS ?_
                        rotate_left
                        · (intro w' hSw; (try dsimp only at hSw); go_simp; try with_reducible rfl)
                        try simp only [Act.put, List.getElem_toArray, List.getElem_cons_succ, List.getElem_cons_zero, List.setIfInBounds_toArray, List.set_cons_zero, List.set_cons_succ]
                        refine AnyG.takeGC (i := 8) (v := ?_) rfl (by kernel_rfl) (fun _ _ _ h => h) (by first | (simp [Region.wanted, yielded]; done) | simp [Region.wanted, yielded, undef]) ?_ hS ?_
                        rotate_left
                        · (intro w' hSw; (try dsimp only at hSw); go_simp; try with_reducible rfl)
                        try simp only [Act.put, List.getElem_toArray, List.getElem_cons_succ, List.getElem_cons_zero, List.setIfInBounds_toArray, List.set_cons_zero, List.set_cons_succ]
                        refine AnyG.takeGC (i := 9) (v := ?_) rfl (by kernel_rfl) (fun _ _ _ h => h) (by first | (simp [Region.wanted, yielded]; done) | simp [Region.wanted, yielded, undef]) ?_ hS ?_
                        rotate_left
                        · (intro w' hSw; (try dsimp only at hSw); go_simp; try with_reducible rfl)
                        try simp only [Act.put, List.getElem_toArray, List.getElem_cons_succ, List.getElem_cons_zero, List.setIfInBounds_toArray, List.set_cons_zero, List.set_cons_succ]
                        refine AnyG.takeGC (i := 10) (v := ?_) rfl (by kernel_rfl) (fun _ _ _ h => h) (by first | (simp [Region.wanted, yielded]; done) | simp [Region.wanted, yielded, undef]) ?_ hS ?_
                        rotate_left
                        · (intro w' hSw; (try dsimp only at hSw); go_simp; try with_reducible rfl)
                        try simp only [Act.put, List.getElem_toArray, List.getElem_cons_succ, List.getElem_cons_zero, List.setIfInBounds_toArray, List.set_cons_zero, List.set_cons_succ]
                        refine AnyG.takeGC (i := 11) (v := ?_) rfl (by kernel_rfl) (fun _ _ _ h => h) (by first | (simp [Region.wanted, yielded]; done) | simp [Region.wanted, yielded, undef]) ?_ hS ?_
                        rotate_left
                        · (intro w' hSw; (try dsimp only at hSw); go_simp; try with_reducible rfl)
                        try simp only [Act.put, List.getElem_toArray, List.getElem_cons_succ, List.getElem_cons_zero, List.setIfInBounds_toArray, List.set_cons_zero, List.set_cons_succ]
                        refine AnyG.takeGC (i := 12) (v := ?_) rfl (by kernel_rfl) (fun _ _ _ h => h) (by first | (simp [Region.wanted, yielded]; done) | simp [Region.wanted, yielded, undef]) ?_ hS ?_
                        rotate_left
                        · (intro w' hSw; (try dsimp only at hSw); have b0 := (hPU.call hSw).b0; go_simp; try with_reducible rfl)
                        try simp only [Act.put, List.getElem_toArray, List.getElem_cons_succ, List.getElem_cons_zero, List.setIfInBounds_toArray, List.set_cons_zero, List.set_cons_succ]
                        refine AnyG.oneC (i := 13) (by kernel_rfl) rfl (by first | (simp [Region.wanted, yielded]; done) | simp [Region.wanted, yielded, undef]) ?_
                        go_simp
                        refine (equalInts_any B n d A n c s s _ (by have := HO.out.n20; omega) (by have := HO.out.n20; omega) HO.out.sl HO.out.sl ((hSB.below hS).more hS.size) (hPU.call hS).hS).mono ?_
                        rintro e13 y13 ⟨rfl, hb13⟩
                        rw [show decide (s = s) = true by simp]
                        refine Onward.on (hS.trans (hb13.mono hS.size)) (fun hS2 => ?_)
                        clear hS
                        have hS := hS2
                        clear hS2
                        try simp only [Act.put, List.getElem_toArray, List.getElem_cons_succ, List.getElem_cons_zero, List.setIfInBounds_toArray, List.set_cons_zero, List.set_cons_succ]
                        refine AnyG.takeGC (i := 14) (v := ?_) rfl (by kernel_rfl) (fun _ _ _ h => h) (by first | (simp [Region.wanted, yielded]; done) | simp [Region.wanted, yielded, undef]) ?_ hS ?_
                        rotate_left
                        · (intro w' hSw; (try dsimp only at hSw); go_simp; try with_reducible rfl)
                        try simp only [Act.put, List.getElem_toArray, List.getElem_cons_succ, List.getElem_cons_zero, List.setIfInBounds_toArray, List.set_cons_zero, List.set_cons_succ]
                        refine AnyG.takeC (i := 15) (v := ?_) rfl (by kernel_rfl) (fun _ _ _ h => h) rfl ?_ hS ?_
                        rotate_left
                        · (intro w' hSw; (try dsimp only at hSw); go_simp; try with_reducible rfl)
                        try simp only [Act.put, List.getElem_toArray, List.getElem_cons_succ, List.getElem_cons_zero, List.setIfInBounds_toArray, List.set_cons_zero, List.set_cons_succ]
                        refine AnyG.done (by kernel_rfl) ?_ _
                        go_simp
                        go_wp2_with fail
                        exact ⟨⟨k + 1, by go_num, by omega, hBW.trans (hS.mono hBW.size)⟩, by simp [intOf]; omega⟩
        · obtain rfl : k = 4 := by omega
          go_wp2_with (first | (go_at_call 15; refine (awake_any _).mono ?_; rintro e z3 ⟨rfl, hq3⟩) | fail)
          go_ret
          exact ⟨rfl, BW.trans ((hBW.trans (hq3.mono hBW.size)).mono BW.size)⟩

end Go.Proofs.Ytfcpjkofbejleaa
