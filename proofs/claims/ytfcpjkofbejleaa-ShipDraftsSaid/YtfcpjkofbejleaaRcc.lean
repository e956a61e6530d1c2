/- The reference: Check 28. -/
import Derived.Test.YtfcpjkofbejleaaRcb
set_option linter.unusedSimpArgs false
set_option linter.unusedVariables false
namespace Go.Proofs.Ytfcpjkofbejleaa
open Go Go.RowKit
theorem ckV_bad {v : Vg} {R : Int} (h : ckBH v = R) (hz : R ≠ 0) : ckV v = R := by
  unfold ckBH at h
  unfold ckV
  by_cases a : ckBg v ≠ 0
  · rw [if_pos a] at h ⊢; exact h
  · rw [if_neg a] at h ⊢
    by_cases b : ckHs v.hs ≠ 0
    · rw [if_pos b] at h ⊢; exact h
    · rw [if_neg b] at h ⊢
      by_cases c : ¬ (0 ≤ v.le ∧ v.le ≤ 2880)
      · rw [if_pos c] at h ⊢; exact h
      · rw [if_neg c] at h; exact absurd h.symm hz
theorem ckV_yes {v : Vg} (h : ckBH v = 0) : ckV v = if ckSs v.ss ≠ 0 then ckSs v.ss else ckCs v.ls := by
  unfold ckBH at h
  unfold ckV
  by_cases a : ckBg v ≠ 0
  · rw [if_pos a] at h; exact absurd h a
  · rw [if_neg a] at h ⊢
    by_cases b : ckHs v.hs ≠ 0
    · rw [if_pos b] at h; exact absurd h b
    · rw [if_neg b] at h ⊢
      by_cases c : ¬ (0 ≤ v.le ∧ v.le ≤ 2880)
      · rw [if_pos c] at h; cases h
      · rw [if_neg c]
set_option maxRecDepth 100000 in
set_option maxHeartbeats 3200000 in
theorem refCheck_any (v : Vg) (p : Vp) (w : World) (hF : p.Fit) (hLF : LvFit v) (hV : VoyAt w w.heap.size v p) : Calls Try.prog 28 #[.agg (vcs v p)] w fun e w' => e = .returned (.int .i64 (ckV v)) ∧ Below w.heap.size w w' := by
  have k0 := Bx.new w 26 (vcs v p)
  have B0 := (Below.refl w.heap.size w).alloc (Nat.le_refl _) (.cells (vcs v p) 26)
  have hV1 := hV.call B0
  have HSL := Lib.hid hV.sl
  have HLL := Lib.hid hV.ll
  have hsn := hF.sn
  have hln := hF.ln
  have HLF := Lib.hid hLF
  rw [vcs_def] at k0 B0 hV1 ⊢
  clear hV hLF
  obtain ⟨R, hR⟩ : ∃ R, ckBH v = R := ⟨_, rfl⟩
  have HBH := Lib.hid hR
  by_cases hz : R = 0
  case neg =>
    have hz1 : (R != 0) = true := by simpa using hz
    have HR := Lib.hid (ckV_bad hR hz)
    clear hR
    go_enter Try.func28, Try.ntmps28
    go_wp2_with (first
      | (go_at_call 65; refine (refBarge_any v p _ hF hV1).mono ?_; rintro e_1 w_1 ⟨rfl, hb_1⟩; rw [HBH.out]; have B_1 := B0.trans (hb_1.mono B0.size); have k_1 := k0.call hb_1; obtain ⟨c0, c1, c2, c3, c4, c5, c6, cf, cz⟩ := k_1.seven)
      | fail)
    go_ret
    exact ⟨ret_int HR.out.symm, B_1⟩
  subst hz
  have HR0 := Lib.hid (ckV_yes hR)
  clear hR
  by_cases h4 : 4 < p.sn
  · have HR : Hid (ckV v = 6) := Lib.hid (by rw [HR0.out, show ckSs v.ss = 6 by unfold ckSs; rw [if_pos (by rw [HSL.out]; omega)]]; rfl)
    have hb4 : (4 : Int) < (p.sn : Int) := by omega
    go_enter Try.func28, Try.ntmps28
    go_wp2_with (first
      | (go_at_call 65; refine (refBarge_any v p _ hF hV1).mono ?_; rintro e_1 w_1 ⟨rfl, hb_1⟩; rw [HBH.out]; have B_1 := B0.trans (hb_1.mono B0.size); have k_1 := k0.call hb_1; obtain ⟨c0, c1, c2, c3, c4, c5, c6, cf, cz⟩ := k_1.seven)
      | fail)
    go_ret
    exact ⟨ret_int HR.out.symm, B_1⟩
  have hb4 : ¬ (4 : Int) < (p.sn : Int) := by omega
  have HRS : Hid (ckSs v.ss = ckSis v.ss) := Lib.hid (by unfold ckSs; rw [if_neg (by rw [HSL.out]; omega)])
  go_enter Try.func28, Try.ntmps28
  go_wp2_with (first
    | (go_at_call 65; refine (refBarge_any v p _ hF hV1).mono ?_; rintro e_1 w_1 ⟨rfl, hb_1⟩; rw [HBH.out]; have B_1 := B0.trans (hb_1.mono B0.size); have k_1 := k0.call hb_1; obtain ⟨c0, c1, c2, c3, c4, c5, c6, cf, cz⟩ := k_1.seven)
    | fail)
  have hV2 := hV1.call hb_1
  clear c0 c1 c2 c3 c4 c5 c6 cf cz
  go_loopw [4] (fun i wr => ∃ k : Nat, k ≤ p.sn ∧ i = .int .i64 k ∧ Hid (ckSis v.ss = ckSis (v.ss.drop k)) ∧ Below w_1.heap.size w_1 wr) (fun i _ => p.sn - (intOf i).toNat)
  case atStart => exact ⟨0, by omega, rfl, rfl, Below.refl _ _⟩
  case round =>
    obtain ⟨k, hk, rfl, hd, hB⟩ := hrel
    have kr := k_1.call hB
    have BR := B_1.trans (hB.mono B_1.size)
    obtain ⟨c0, c1, c2, c3, c4, c5, c6, cf, cz⟩ := kr.seven
    by_cases hkn : k < p.sn
    · have hke : k < v.ss.length := by rw [HSL.out]; exact hkn
      obtain ⟨ad, G, gc, hSA, _, q0, q1, q2, _, hG⟩ := (hV2.call hB).ss.at_ hke
      have hds := ckSis_step hke
      have hlf := HLF.out _ (List.getElem_mem hke)
      generalize v.ss[k] = b at *
      obtain ⟨bt0, bt1, blv⟩ := b
      dsimp only at q0 q1 q2 hG hlf
      rw [hSA] at c5
      have HSA := Lib.hid hSA
      clear hSA
      obtain ⟨gn, hgn⟩ : ∃ x, blv.length = x := ⟨_, rfl⟩
      rw [hgn] at q2 hlf
      have HGN := Lib.hid hgn
      obtain ⟨R, hR⟩ : ∃ R, ckSi ⟨bt0, bt1, blv⟩ = R := ⟨_, rfl⟩
      have HRR := Lib.hid hR
      by_cases hz : R = 0
      · subst hz
        have hd' : Hid (ckSis v.ss = ckSis (v.ss.drop (k + 1))) := Lib.hid (by rw [hd.out, hds, hR]; simp)
        clear hds hR hgn
        go_wp2_with (first
          | (go_at_call 66; refine (refSill_any bt0 bt1 G gn gc blv _ hlf HGN.out hG).mono ?_; rintro e_2 w_2 ⟨rfl, hb_2⟩; rw [HRR.out]; have B_2 := hB.trans (hb_2.mono hB.size))
          | fail)
        go_roundw
        case rel => exact ⟨k + 1, by omega, by go_num, hd', B_2⟩
        case measure => simp [intOf]; omega
      · have hz1 : (R != 0) = true := by simpa using hz
        have hd' : Hid (ckSis v.ss = R) := Lib.hid (by rw [hd.out, hds, hR, if_pos hz])
        have HR : Hid (ckV v = R) := Lib.hid (by rw [HR0.out, HRS.out, hd'.out, if_pos hz])
        clear hds hR hgn
        go_wp2_with (first
          | (go_at_call 66; refine (refSill_any bt0 bt1 G gn gc blv _ hlf HGN.out hG).mono ?_; rintro e_2 w_2 ⟨rfl, hb_2⟩; rw [HRR.out]; have B_2 := BR.trans (hb_2.mono BR.size))
          | fail)
        go_ret
        exact ⟨ret_int HR.out.symm, B_2⟩
    · have hd' : Hid (ckSis v.ss = 0) := by unfold Hid; rw [hd.out, List.drop_eq_nil_of_le (by rw [HSL.out]; omega)]; rfl
      have HR1 : Hid (ckV v = ckCs v.ls) := Lib.hid (by rw [HR0.out, HRS.out, hd'.out]; rfl)
      by_cases h6 : 6 < p.ln
      · have HR : Hid (ckV v = 6) := Lib.hid (by rw [HR1.out]; unfold ckCs; rw [if_pos (by rw [HLL.out]; omega)])
        have hb6 : (6 : Int) < (p.ln : Int) := by omega
        go_wp2_with fail
        go_ret
        exact ⟨ret_int HR.out.symm, BR⟩
      have hb6 : ¬ (6 : Int) < (p.ln : Int) := by omega
      have HRC : Hid (ckV v = ckCgs v.ls) := Lib.hid (by rw [HR1.out]; unfold ckCs; rw [if_neg (by rw [HLL.out]; omega)])
      go_wp2_with fail
      clear c0 c1 c2 c3 c4 c5 c6 cf cz
      obtain ⟨w_3, rfl⟩ : ∃ Z, Z = wr := ⟨_, rfl⟩
      have hV3 := hV2.call hB
      go_loopw [6] (fun i wr => ∃ k : Nat, k ≤ p.ln ∧ i = .int .i64 k ∧ Hid (ckCgs v.ls = ckCgs (v.ls.drop k)) ∧ Below w_3.heap.size w_3 wr) (fun i _ => p.ln - (intOf i).toNat)
      case atStart => exact ⟨0, by omega, rfl, rfl, Below.refl _ _⟩
      case round =>
        obtain ⟨m, hm, rfl, he, hC⟩ := hrel
        have km := kr.call hC
        have BM := BR.trans (hC.mono BR.size)
        obtain ⟨c0, c1, c2, c3, c4, c5, c6, cf, cz⟩ := km.seven
        by_cases hmn : m < p.ln
        · have hme : m < v.ls.length := by rw [HLL.out]; exact hmn
          obtain ⟨ad, hLA, _, q0, q1, q2⟩ := cg_at (hV3.call hC).ls hme
          have hds := ckCgs_step hme
          generalize v.ls[m] = b at *
          rw [hLA] at c6
          have HLA := Lib.hid hLA
          clear hLA
          obtain ⟨R, hR⟩ : ∃ R, ckR b.t0 b.t1 0 5000 = R := ⟨_, rfl⟩
          have HRR := Lib.hid hR
          have H67 : ∀ {w' : World} (hb : Below wr.heap.size wr w'), w'.cell? (ad.add (m * 3)) = some (.int .i64 b.t0) := fun hb => cellC hb q0
          by_cases hz : R = 0
          · subst hz
            by_cases h3 : 0 ≤ b.wo ∧ b.wo ≤ 100000
            · have hd2 : Hid (ckCgs v.ls = ckCgs (v.ls.drop (m + 1))) := Lib.hid (by rw [he.out, hds, show ckCg b = 0 by unfold ckCg; rw [hR, if_neg (by simp), if_neg (by omega)]]; simp)
              clear hds hR H67
              go_wp2_with (first
                | (go_at_call 68; refine (btw_yes _ _ _ _ h3).mono ?_; rintro e_5 w_5 ⟨rfl, hb_5⟩; have B_5 := B_4.trans (hb_5.mono B_4.size))
                | (go_at_call 67; refine (refRange_any _ _ _ _).mono ?_; rintro e_4 w_4 ⟨rfl, hb_4⟩; rw [HRR.out]; have B_4 := hC.trans (hb_4.mono hC.size); have q2' := cellC hb_4 q2; have k_4 := km.call hb_4; clear c0 c1 c2 c3 c4 c5 c6 cf cz; obtain ⟨c0, c1, c2, c3, c4, c5, c6, cf, cz⟩ := k_4.seven; rw [HLA.out] at c6)
                | fail)
              go_roundw
              case rel => exact ⟨m + 1, by omega, by go_num, hd2, B_5⟩
              case measure => simp [intOf]; omega
            · have hd2 : Hid (ckCgs v.ls = 1) := Lib.hid (by rw [he.out, hds, show ckCg b = 1 by unfold ckCg; rw [hR, if_neg (by simp), if_pos (by omega)]]; simp)
              have HR : Hid (ckV v = 1) := Lib.hid (by rw [HRC.out, hd2.out])
              clear hds hR H67
              go_wp2_with (first
                | (go_at_call 68; refine (btw_no _ _ _ _ h3).mono ?_; rintro e_5 w_5 ⟨rfl, hb_5⟩; have B_5 := B_4.trans (hb_5.mono B_4.size))
                | (go_at_call 67; refine (refRange_any _ _ _ _).mono ?_; rintro e_4 w_4 ⟨rfl, hb_4⟩; rw [HRR.out]; have B_4 := BM.trans (hb_4.mono BM.size); have q2' := cellC hb_4 q2; have k_4 := km.call hb_4; clear c0 c1 c2 c3 c4 c5 c6 cf cz; obtain ⟨c0, c1, c2, c3, c4, c5, c6, cf, cz⟩ := k_4.seven; rw [HLA.out] at c6)
                | fail)
              go_ret
              exact ⟨ret_int HR.out.symm, B_5⟩
          · have hz1 : (R != 0) = true := by simpa using hz
            have hd2 : Hid (ckCgs v.ls = R) := Lib.hid (by rw [he.out, hds, show ckCg b = R by unfold ckCg; rw [hR, if_pos hz], if_pos hz])
            have HR : Hid (ckV v = R) := Lib.hid (by rw [HRC.out, hd2.out])
            clear hds hR H67
            go_wp2_with (first
              | (go_at_call 67; refine (refRange_any _ _ _ _).mono ?_; rintro e_4 w_4 ⟨rfl, hb_4⟩; rw [HRR.out]; have B_4 := BM.trans (hb_4.mono BM.size))
              | fail)
            go_ret
            exact ⟨ret_int HR.out.symm, B_4⟩
        · have hd2 : Hid (ckCgs v.ls = 0) := by unfold Hid; rw [he.out, List.drop_eq_nil_of_le (by rw [HLL.out]; omega)]; rfl
          have HR : Hid (ckV v = 0) := Lib.hid (by rw [HRC.out, hd2.out])
          go_wp2_with fail
          go_ret
          exact ⟨ret_int HR.out.symm, BM⟩
end Go.Proofs.Ytfcpjkofbejleaa
