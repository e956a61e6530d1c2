/- ShipLighter. -/
import Derived.Test.YtfcpjkofbejleaaLi2
import Derived.Test.YtfcpjkofbejleaaYe
set_option linter.unusedSimpArgs false
set_option linter.unusedVariables false
namespace Go.Proofs.Ytfcpjkofbejleaa
open Go Go.RowKit
theorem inrs_set {l : List Int} {i : Nat} (hi : i < l.length) (z : Int) : (inr l).flatten.set i (.int .i64 z) = (inr (l.set i z)).flatten := by
  have := flatten_set (s := 1) (inr l) (inr_one l) i 0 [.int .i64 l[i]] (.int .i64 z) (by unfold inr; rw [List.getElem?_map, List.getElem?_eq_getElem hi]; rfl) (by omega)
  rw [Nat.mul_one, Nat.add_zero] at this
  rw [this]
  congr 1
  unfold inr
  rw [List.map_set]
  rfl
theorem Left.refl (s : List Int) : Left s s := ⟨rfl, fun i x y h1 h2 => .inl (by rw [h1, Option.some.injEq] at h2; exact h2.symm)⟩
theorem Left.set_ {s t : List Int} (h : Left s t) {i : Nat} {z : Int} (hz : z = t.getD i 0 ∨ z = -1) : Left s (t.set i z) := by
  refine ⟨by rw [List.length_set]; exact h.len, fun j x y hx hy => ?_⟩
  by_cases e : i = j
  · subst e
    have hi : i < t.length := by have := (List.getElem?_eq_some_iff.1 hx).1; have := h.len; omega
    rw [List.getElem?_set_self hi, Option.some.injEq] at hy
    subst hy
    rcases hz with hz | hz
    · have k := h.at_ i x t[i] hx (List.getElem?_eq_getElem hi)
      rw [List.getD_eq_getElem?_getD, List.getElem?_eq_getElem hi] at hz
      simp only [Option.getD_some] at hz
      omega
    · exact .inr hz
  · rw [List.getElem?_set_ne e] at hy
    exact h.at_ j x y hx hy
/-- A store into a row of numbers of one's own, behind what a feed turns. -/
theorem FT.put {g : Nat} {V x : World} (h : FT g V x) {b q n c : Nat} {l : List Int} (o : x.ownsRow b 3 1 (.slice (some ⟨q, 0, none⟩) n c) n (inr l).flatten) (hb : V.heap.size ≤ b) (i : Nat) (u : Value) : FT g V (x.setCell ⟨q, i, none⟩ u) :=
  h.own o (grown_set x q i u) hb (by decide)
theorem inr_cell {w : World} {b q n c : Nat} {l : List Int} (h : w.ownsRow b 3 1 (.slice (some ⟨q, 0, none⟩) n c) n (inr l).flatten) (hl : l.length = n) {i : Nat} (hi : i < l.length) : w.cell? ⟨q, i, none⟩ = some (.int .i64 l[i]) := by
  obtain ⟨ad, e, _, h0⟩ := inr_at (own_inr h hl) hi
  simp only [Option.some.injEq] at e
  subst e
  have e : (⟨q, 0, none⟩ : Addr).add i = ⟨q, i, none⟩ := by unfold Addr.add; split <;> simp_all
  rw [e] at h0
  exact h0
set_option maxRecDepth 100000 in
set_option maxHeartbeats 8000000 in
theorem shipLighter_run (A : Option Addr) (n c : Nat) (L : List Int) (w : World) (hn : n ≤ 9000000000000000000) (hl : L.length = n) (hA : Sl w w.heap.size 1 A (ints L)) : Calls Try.prog 9 #[.slice A n c] w fun e w' => e = .returned (.bool true) ∧ Below w.heap.size w w' := by
  have HL := Lib.hid hl
  clear hl
  obtain ⟨i3, hi3, hz3, hs3, iy3⟩ := info_parts info3'
  go_enter Try.func9, Try.ntmps9
  go_upto_region 3 with (first
    | (go_at_call 16; refine (feedOf_any A n c L _ hn HL.out hA).mono ?_; rintro e w1 ⟨⟨g, rfl, hg0, hfd⟩, hb1⟩)
    | (go_at_call 18; have U1 := (FT.self hfd).alloc (.cells #[.int .i64 4, .int .i64 30] 3); refine (either_any g w1.heap.size 2 #[.int .i64 4, .int .i64 30] (fun z => z = 4 ∨ z = 30) _ U1.2 (Bx.new w1 3 _) (by have := hfd.lt; omega) (by omega) (by omega) (bx2 _ (by omega) (by omega))).mono ?_; rintro e w2 ⟨⟨T, rfl, hT⟩, hf2, hg2⟩; have U2 := U1.call hg2 hf2; clear hf2 hg2 U1)
    | (go_at_call 17; refine (voyageOf_any g 3 4 6 T _ U2.2 (by omega) (by omega) (by omega) (by omega) (by omega) (by omega) (by omega) (by omega)).mono ?_; rintro e w3 ⟨⟨v, p, hsm, hFit, rfl, hV0⟩, hU3⟩; have U3 : FT g w1 w3 := ⟨grownF_trans U2.1 hU3.1, hU3.2⟩; rw [vcs_def]; clear hU3 U2)
    | fail)
  have hok := hsm.ok (by omega) (by omega) (by omega) (by omega)
  have hck := hsm.ck (by omega) (by omega) (by omega) (by omega)
  have hlf := hsm.lf
  have HSM := Lib.hid hsm
  have HOK := Lib.hid hok
  have HCK := Lib.hid hck
  have HLF := Lib.hid hlf
  have HFT := Lib.hid hFit
  have hln6 : p.ln ≤ 6 := by rw [← hV0.ll]; exact hok.l6
  have hsn4 : p.sn ≤ 4 := by rw [← hV0.sl]; exact hok.s4
  have hhn3 : p.hn ≤ 3 := by rw [← hV0.hl]; exact hok.h3
  have hhn1 : 1 ≤ p.hn := by rw [← hV0.hl]; exact hok.h1
  have B1 := (Below.refl w3.heap.size w3).alloc (Nat.le_refl _) (.cells #[.int .i64 v.li, .int .i64 v.un, .int .i64 v.tr, .slice p.HA p.hn p.hc, .int .i64 v.le, .slice p.SA p.sn p.sc, .slice p.LA p.ln p.lc] 26)
  have kO := Bx.new w3 26 #[.int .i64 v.li, .int .i64 v.un, .int .i64 v.tr, .slice p.HA p.hn p.hc, .int .i64 v.le, .slice p.SA p.sn p.sc, .slice p.LA p.ln p.lc]
  have hO := hV0.call B1
  have U4 := U3.alloc (.cells #[.int .i64 v.li, .int .i64 v.un, .int .i64 v.tr, .slice p.HA p.hn p.hc, .int .i64 v.le, .slice p.SA p.sn p.sc, .slice p.LA p.ln p.lc] 26)
  have hgl := U3.2.lt
  have hw13 := U3.size
  obtain ⟨V1, hV1⟩ : ∃ V, w3.alloc (.cells #[.int .i64 v.li, .int .i64 v.un, .int .i64 v.tr, .slice p.HA p.hn p.hc, .int .i64 v.le, .slice p.SA p.sn p.sc, .slice p.LA p.ln p.lc] 26) = V := ⟨_, rfl⟩
  rw [hV1] at kO hO U4 ⊢
  obtain ⟨bO, hbO⟩ : ∃ b, w3.heap.size = b := ⟨_, rfl⟩
  rw [hbO] at kO hgl ⊢
  have hgO : bO ≠ g := by omega
  clear hV1 hbO B1 hV0 U3 hsm hok hck hlf hFit hw13
  obtain ⟨l0, l1, l2, l3, l4, l5, l6, lf', lz⟩ := kO.seven
  go_upto_region 4 with (first
    | (go_at_call 19; refine (stowageOf_any g v p _ U4.2 HCK.out hO).mono ?_; rintro e V ⟨⟨SA, sc, s, rfl, hsl, hst, hSV⟩, hU5⟩; have U5 : FT g w1 V := ⟨grownF_trans U4.1 hU5.1, hU5.2⟩)
    | fail)
  have HSL := Lib.hid hsl
  have HST := Lib.hid hst
  have kV := hU5.bx kO hgO
  have hV := hU5.voy U4.2 hO
  have hBV := U5.be hb1 hg0
  have hFV := U5.2
  clear hb1 hfd U4 U5 hU5 l0 l1 l2 l3 l4 l5 l6 lf' lz kO hO hsl hst hgl
  go_upto_region 5 with (first
    | (go_at_call 20; refine (ints20_any SA p.ln sc s _ (by omega) HSL.out hSV).mono ?_; rintro e w5 ⟨⟨XA, xc, rfl, ox⟩, hb5⟩)
    | fail)
  have F5 := (FT.self hFV).bel hb5
  have hox : w5.ownsRow V.heap.size 3 1 (.slice XA p.ln xc) p.ln (inr s).flatten := ox
  clear hb5 ox
  go_wp2_with fail
  go_loopw [7] (fun iv wr => ∃ (i : Nat) (l : List Int), iv = .int .i64 i ∧ i ≤ p.ln ∧ l.length = p.ln ∧ Left s l ∧ wr.ownsRow V.heap.size 3 1 (.slice XA p.ln xc) p.ln (inr l).flatten ∧ FT g V wr) (fun iv _ => p.ln - (intOf iv).toNat)
  case atStart => exact ⟨0, s, rfl, by omega, HSL.out, .refl s, hox, F5⟩
  case round =>
    clear hox F5
    obtain ⟨i, l, rfl, hi, hll, hlf, ox, F⟩ := hrel
    by_cases hin : i < p.ln
    · obtain ⟨xq, rfl⟩ := own_some ox (by omega)
      have hil : i < l.length := by rw [hll]; exact hin
      have hcell := inr_cell ox hll hil
      have hfree := own_free ox
      have HLL := Lib.hid hll
      have HLF := Lib.hid hlf
      have hgd : l.getD i 0 = l[i] := by rw [List.getD_eq_getElem?_getD, List.getElem?_eq_getElem hil]; rfl
      obtain ⟨a, ha⟩ : ∃ a, l[i] = a := ⟨_, rfl⟩
      rw [ha] at hcell hgd
      have HA := Lib.hid ha
      have HGD := Lib.hid hgd
      have hiw : IntKind.i64.wrap ((i : Int) + 1) = (i : Int) + 1 := IntWalk.i64_in _ (by omega)
      clear ha hgd hll hlf
      have FA := F.alloc (.cells #[.int .i64 a, .int .i64 (-1)] 3)
      have oA := ox.alloc (.cells #[.int .i64 a, .int .i64 (-1)] 3)
      have hwg := F.2.lt
      go_upto_region 7 with (first
        | (go_at_call 18; refine (either_any g wr.heap.size 2 #[.int .i64 a, .int .i64 (-1)] (fun z => z = a ∨ z = -1) _ FA.2 (Bx.new wr 3 _) (by omega) (by omega) (by omega) (bx2 _ (by omega) (by omega))).mono ?_; rintro e w6 ⟨⟨z, rfl, hz⟩, hf6, hg6⟩; have F6 := FA.call hg6 hf6; have o6 := own_fd oA FA.2 hg6 (by decide); have hfree6 := own_free o6; have hcell6 := inr_cell o6 HLL.out hil; rw [HA.out] at hcell6)
        | fail)
      have o7 := own_store o6 i (.int .i64 z) (by omega)
      have F7 := F6.put o6 (Nat.le_refl _) i (.int .i64 z)
      rw [inrs_set hil] at o7
      clear hf6 hg6 hcell hfree hfree6 hcell6 FA oA
      obtain ⟨W7, hW7⟩ : ∃ W, w6.setCell ⟨xq, i, none⟩ (.int .i64 z) = W := ⟨_, rfl⟩
      rw [hW7] at o7 F7 ⊢
      clear hW7 o6 F6
      go_wp2_with fail
      go_roundw
      case rel => exact ⟨i + 1, l.set i z, by go_num, by omega, by rw [List.length_set]; exact HLL.out, HLF.out.set_ (by rw [HGD.out]; exact hz), o7, F7⟩
      case measure => simp [intOf]; omega
    · obtain rfl : i = p.ln := by omega
      have hst2 := left_ok hlf HST.out HCK.out
      obtain ⟨hnw, hnl⟩ := left_sooner hlf HST.out hst2
      have hvd := hnw.verd
      have hss := hV.sl
      rw [hss] at hvd
      have hol1 := Nat.le_trans (Nat.le_of_eq (overM_len HOK.out (inH_held (ckSt_ok HST.out).inh))) (salM_len v (abd v.ls s) false)
      have hol2 := Nat.le_trans (Nat.le_of_eq (overM_len HOK.out (inH_held (ckSt_ok hst2).inh))) (salM_len v (abd v.ls l) false)
      rw [hss] at hol1 hol2
      have HS2 := Lib.hid hst2
      have HVD := Lib.hid hvd
      have HNL := Lib.hid hnl
      have HLL := Lib.hid hll
      obtain ⟨y, hy⟩ : ∃ y, verdM p.sn (salM v (abd v.ls s) true).length (salM v (abd v.ls s) false).length = y := ⟨_, rfl⟩
      obtain ⟨z, hz⟩ : ∃ y, verdM p.sn (salM v (abd v.ls l) true).length (salM v (abd v.ls l) false).length = y := ⟨_, rfl⟩
      obtain ⟨O1, hO1⟩ : ∃ y, overM v (abd v.ls s) = y := ⟨_, rfl⟩
      obtain ⟨O2, hO2⟩ : ∃ y, overM v (abd v.ls l) = y := ⟨_, rfl⟩
      rw [hO1] at hol1
      rw [hO2] at hol2
      rw [hO1, hO2] at hnl
      rw [hy, hz] at hvd
      obtain ⟨n1, hn1⟩ : ∃ y, O1.length = y := ⟨_, rfl⟩
      obtain ⟨n2, hn2⟩ : ∃ y, O2.length = y := ⟨_, rfl⟩
      rw [hn1] at hol1
      rw [hn2] at hol2
      have HY := Lib.hid (show verdM v.ss.length (salM v (abd v.ls s) true).length (salM v (abd v.ls s) false).length = y by rw [hss]; exact hy)
      have HZ := Lib.hid (show verdM v.ss.length (salM v (abd v.ls l) true).length (salM v (abd v.ls l) false).length = z by rw [hss]; exact hz)
      have HO1 := Lib.hid hO1
      have HO2 := Lib.hid hO2
      have HN1 := Lib.hid hn1
      have HN2 := Lib.hid hn2
      have HNL2 := Lib.hid hnl
      have HVD2 := Lib.hid hvd
      have kW := F.bx kV hgO
      have hVW := F.voy hFV hV
      have hSW := F.sl hFV hSV (inr_no _)
      have hBW := F.be hBV hg0
      have oxW := own_inr ox hll
      clear hy hz hO1 hO2 hn1 hn2 hnl hvd hnw hst2 hll hlf F HNL HVD
      obtain ⟨l0, l1, l2, l3, l4, l5, l6, lf', lz⟩ := kW.seven
      go_upto_region 10 with (first
        | (go_at_call 33; refine (sail33_any v p SA p.ln sc s _ HFT.out HLF.out hVW hSW HSL.out (by omega)).mono ?_; rintro e w8 ⟨hp8, hb8⟩; rw [if_pos HST.out, HY.out, HO1.out, HN1.out] at hp8; obtain ⟨X8, x8, rfl, o8⟩ := hp8)
        | fail)
      clear l0 l1 l2 l3 l4 l5 l6 lf' lz
      have kW8 := kW.call hb8
      have hV8 := hVW.call hb8
      have ox8 := (oxW.below hb8).more hb8.size
      have hB8 := hBW.trans (hb8.mono hBW.size)
      clear kW hVW oxW hBW hb8 hSW
      obtain ⟨l0, l1, l2, l3, l4, l5, l6, lf', lz⟩ := kW8.seven
      go_upto_region 11 with (first
        | (go_at_call 33; refine (sail33_any v p XA p.ln xc l _ HFT.out HLF.out hV8 ox8 HLL.out (by omega)).mono ?_; rintro e w9 ⟨hp9, hb9⟩; rw [if_pos HS2.out, HZ.out, HO2.out, HN2.out] at hp9; obtain ⟨X9, x9, rfl, o9⟩ := hp9)
        | fail)
      clear l0 l1 l2 l3 l4 l5 l6 lf' lz
      have o8' := own_gnr (own_bel o8 hb9) HN1.out
      have o9' := own_gnr o9 HN2.out
      have hB9 := hB8.trans (hb9.mono hB8.size)
      clear kW8 hV8 ox8 hB8 hb9 o8 o9
      go_wp2_with (first
        | (go_at_call 47; refine (sooner_any y z X8 n1 x8 X9 n2 x9 O1 O2 _ HVD2.out.1 HVD2.out.2 HN1.out HN2.out (by omega) (by omega) HNL2.out o8' o9').mono ?_; rintro e w10 ⟨rfl, hb10⟩)
        | (go_at_call 15; refine (awake_any _).mono ?_; rintro e w11 ⟨rfl, hb11⟩)
        | fail)
      have hB10 := hB9.trans (hb10.mono hB9.size)
      go_ret
      exact ⟨rfl, hB10.trans (hb11.mono hB10.size)⟩
end Go.Proofs.Ytfcpjkofbejleaa
