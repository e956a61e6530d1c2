/- The reference: checkSill 66. -/
import Derived.Test.YtfcpjkofbejleaaRcaM
set_option linter.unusedSimpArgs false
set_option linter.unusedVariables false
namespace Go.Proofs.Ytfcpjkofbejleaa
open Go Go.RowKit
theorem ckSi_bad {t0 t1 : Int} {L : List Lv} {R : Int} (h : ckR t0 t1 0 2880 = R) (hz : R ≠ 0) : ckSi ⟨t0, t1, L⟩ = R := by
  unfold ckSi
  dsimp only
  rw [h, if_pos hz]
theorem ckSi_yes {t0 t1 : Int} {L : List Lv} (h : ckR t0 t1 0 2880 = 0) : ckSi ⟨t0, t1, L⟩ = ckLl L := by
  unfold ckSi
  dsimp only
  rw [h, if_neg (by decide)]
set_option maxRecDepth 100000 in
set_option maxHeartbeats 3200000 in
theorem refSill_any (t0 t1 : Int) (A : Option Addr) (n c : Nat) (L : List Lv) (w : World) (hn : n ≤ 9223372036854775807) (hl : L.length = n) (hA0 : Sl w w.heap.size 3 A (L.map lvr)) :
    Calls Try.prog 66 #[.agg #[.int .i64 t0, .int .i64 t1, .slice A n c]] w fun e w' => e = .returned (.int .i64 (ckSi ⟨t0, t1, L⟩)) ∧ Below w.heap.size w w' := by
  have HL := Lib.hid hl
  have ks := Bx.new w 73 #[.int .i64 t0, .int .i64 t1, .slice A n c]
  have Bs := (Below.refl w.heap.size w).alloc (Nat.le_refl _) (.cells #[.int .i64 t0, .int .i64 t1, .slice A n c] 73)
  clear hl
  obtain ⟨R, hR⟩ : ∃ R, ckR t0 t1 0 2880 = R := ⟨_, rfl⟩
  have HRT := Lib.hid hR
  by_cases hz : R = 0
  case neg =>
    have hz1 : (R != 0) = true := by simpa using hz
    have HR := Lib.hid (ckSi_bad (L := L) hR hz)
    clear hR
    go_enter Try.func66, Try.ntmps66
    go_wp2_with (first
      | (go_at_call 67; refine (refRange_any _ _ _ _).mono ?_; rintro e_1 w_1 ⟨rfl, hb_1⟩; rw [HRT.out]; have B_1 := Bs.trans (hb_1.mono Bs.size))
      | fail)
    go_ret
    exact ⟨ret_int HR.out.symm, B_1⟩
  subst hz
  have HRS := Lib.hid (ckSi_yes (L := L) hR)
  clear hR
  by_cases h7 : n = 0
  · have HR : Hid (ckSi ⟨t0, t1, L⟩ = 7) := Lib.hid (by rw [HRS.out]; unfold ckLl; rw [if_pos (by rw [HL.out]; omega)])
    have hb7 : ((n : Int) == 0) = true := by rw [beq_iff_eq]; omega
    have H7 := Lib.hid h7
    clear h7
    go_enter Try.func66, Try.ntmps66
    go_wp2_with (first
      | (go_at_call 67; refine (refRange_any _ _ _ _).mono ?_; rintro e_1 w_1 ⟨rfl, hb_1⟩; rw [HRT.out]; have B_1 := Bs.trans (hb_1.mono Bs.size); obtain ⟨s0, s1, s2, sf, sz⟩ := (ks.call hb_1).three')
      | fail)
    go_ret
    exact ⟨ret_int HR.out.symm, B_1⟩
  have hb7 : ((n : Int) == 0) = false := by rw [beq_eq_false_iff_ne]; omega
  by_cases h6 : 6 < n
  · have HR : Hid (ckSi ⟨t0, t1, L⟩ = 6) := Lib.hid (by rw [HRS.out]; unfold ckLl; rw [if_neg (by rw [HL.out]; omega), if_pos (by rw [HL.out]; omega)])
    have hb6 : (6 : Int) < (n : Int) := by omega
    go_enter Try.func66, Try.ntmps66
    go_wp2_with (first
      | (go_at_call 67; refine (refRange_any _ _ _ _).mono ?_; rintro e_1 w_1 ⟨rfl, hb_1⟩; rw [HRT.out]; have B_1 := Bs.trans (hb_1.mono Bs.size); obtain ⟨s0, s1, s2, sf, sz⟩ := (ks.call hb_1).three')
      | fail)
    go_ret
    exact ⟨ret_int HR.out.symm, B_1⟩
  have hb6 : ¬ (6 : Int) < (n : Int) := by omega
  have HR0 : Hid (ckSi ⟨t0, t1, L⟩ = ckLvs none L) := Lib.hid (by rw [HRS.out]; unfold ckLl; rw [if_neg (by rw [HL.out]; omega), if_neg (by rw [HL.out]; omega)])
  go_enter Try.func66, Try.ntmps66
  go_wp2_with (first
    | (go_at_call 67; refine (refRange_any _ _ _ _).mono ?_; rintro e_1 w_1 ⟨rfl, hb_1⟩; rw [HRT.out]; have B_1 := Bs.trans (hb_1.mono Bs.size); have ks1 := ks.call hb_1; obtain ⟨s0, s1, s2, sf, sz⟩ := ks1.three')
    | fail)
  clear s0 s1 s2 sf sz
  have hA := (hA0.below B_1).more B_1.size
  go_loopw [4] (fun i wr => ∃ (k : Nat) (q : Option Int), k ≤ n ∧ i = .int .i64 k ∧ Hid (ckLvs none L = ckLvs q (L.drop k)) ∧ Hid ((k = 0 ∧ q = none) ∨ (∃ (j : Nat) (l : Lv), k = j + 1 ∧ L[j]? = some l ∧ q = some l.fr)) ∧ Below w_1.heap.size w_1 wr) (fun i _ => n - (intOf i).toNat)
  case atStart => exact ⟨0, none, by omega, rfl, rfl, Lib.hid (.inl ⟨rfl, rfl⟩), Below.refl _ _⟩
  case round =>
    obtain ⟨k, q, hk, rfl, hd, hq, hB⟩ := hrel
    have BR := B_1.trans (hB.mono B_1.size)
    have kb0 := ks1.call hB
    by_cases hkn : k < n
    · have hke : k < L.length := by rw [HL.out]; exact hkn
      have hAr := (hA.below hB).more hB.size
      obtain ⟨ad, rfl, _, q0, q1, q2⟩ := lv_at hAr hke
      have hds := ckLvs_step q hke
      have hget := List.getElem?_eq_getElem hke
      generalize L[k] = b at *
      have HG := Lib.hid hget
      obtain ⟨s0, s1, s2, sf, sz⟩ := kb0.three'
      have k0 := Bx.new wr 75 #[.int .i64 b.fr, .int .i64 b.d0, .int .i64 b.d1]
      have B0 := BR.alloc BR.size (.cells #[.int .i64 b.fr, .int .i64 b.d0, .int .i64 b.d1] 75)
      have BW := hB.alloc hB.size (.cells #[.int .i64 b.fr, .int .i64 b.d0, .int .i64 b.d1] 75)
      have kb := kb0.alloc (.cells #[.int .i64 b.fr, .int .i64 b.d0, .int .i64 b.d1] 75)
      clear hget
      by_cases h1 : 0 ≤ b.fr ∧ b.fr ≤ 2880
      case neg =>
        have hd' : Hid (ckLvs none L = 1) := Lib.hid (by rw [hd.out, hds, show ckLv q b = 1 by unfold ckLv; rw [if_pos h1]]; simp)
        clear hds hA hAr hB hA0
        go_wp2_with (first
          | (go_at_call 68; refine (btw_no _ _ _ _ h1).mono ?_; rintro e_11 w_11 ⟨rfl, hb_11⟩; have k_11 := k0.call hb_11; have B_11 := B0.trans (hb_11.mono B0.size); have kb_11 := kb.call hb_11; obtain ⟨c0_11, c1_11, c2_11, cf_11, cz_11⟩ := k_11.three')
          | fail)
        go_ret
        exact ⟨ret_int (HR0.out.trans hd'.out).symm, B_11⟩
      obtain ⟨R, hR⟩ : ∃ R, ckR b.d0 b.d1 0 10000 = R := ⟨_, rfl⟩
      have HRR := Lib.hid hR
      rcases hq.out with ⟨hk0, rfl⟩ | ⟨j, l, hj, hjl, rfl⟩
      · have hke0 : ((k : Int) == 0) = true := by simp; omega
        have hkz : decide (0 < (k : Int)) = false := by simp; omega
        have hkz2 : decide (0 < k) = false := by simp; omega
        have hkp : ¬ 0 < k := by omega
        have HK0 := Lib.hid hk0
        clear hk0
        by_cases hf : b.fr = 0
        case neg =>
          have hfn : (b.fr != 0) = true := by simpa using hf
          have hd' : Hid (ckLvs none L = 2) := Lib.hid (by rw [hd.out, hds, show ckLv none b = 2 by unfold ckLv; rw [if_neg (fun h => h h1)]; exact if_pos hf]; simp)
          clear hds hA hAr hB hR hA0
          go_wp2_with (first
            | (go_at_call 68; refine (btw_yes _ _ _ _ h1).mono ?_; rintro e_11 w_11 ⟨rfl, hb_11⟩; have k_11 := k0.call hb_11; have B_11 := B0.trans (hb_11.mono B0.size); have kb_11 := kb.call hb_11; obtain ⟨c0_11, c1_11, c2_11, cf_11, cz_11⟩ := k_11.three')
            | fail)
          go_ret
          exact ⟨ret_int (HR0.out.trans hd'.out).symm, B_11⟩
        have hfn : (b.fr != 0) = false := by simpa using hf
        have hck : ckLv none b = R := by unfold ckLv; rw [if_neg (fun h => h h1)]; exact (if_neg (fun h => h hf)).trans hR
        by_cases hz : R = 0
        · subst hz
          have hd' : Hid (ckLvs none L = ckLvs (some b.fr) (L.drop (k + 1))) := Lib.hid (by rw [hd.out, hds, hck]; simp)
          clear hds hAr hB hR hck hf
          go_wp2_with (first
            | (go_at_call 68; refine (btw_yes _ _ _ _ h1).mono ?_; rintro e_11 w_11 ⟨rfl, hb_11⟩; have k_11 := k0.call hb_11; have B_11 := B0.trans (hb_11.mono B0.size); have kb_11 := kb.call hb_11; obtain ⟨c0_11, c1_11, c2_11, cf_11, cz_11⟩ := k_11.three')
            | fail)
          refine AnyG.startC (by kernel_rfl) ?_
          refine AnyG.takeP (i := 0) (v := ?_) rfl (by kernel_rfl) (fun _ _ _ h => h) rfl ?_ ?_
          rotate_left
          · (intro w'; go_simp; try with_reducible rfl)
          try simp only [Act.put, List.getElem_toArray, List.getElem_cons_succ, List.getElem_cons_zero, List.setIfInBounds_toArray, List.set_cons_zero, List.set_cons_succ]
          refine AnyG.takeP (i := 1) (v := ?_) rfl (by kernel_rfl) (fun _ _ _ h => h) rfl ?_ ?_
          rotate_left
          · (intro w'; go_simp; try with_reducible rfl)
          try simp only [Act.put, List.getElem_toArray, List.getElem_cons_succ, List.getElem_cons_zero, List.setIfInBounds_toArray, List.set_cons_zero, List.set_cons_succ]
          refine AnyG.takeP (i := 2) (v := ?_) rfl (by kernel_rfl) (fun _ _ _ h => h) rfl ?_ ?_
          rotate_left
          · (intro w'; go_simp; try with_reducible rfl)
          try simp only [Act.put, List.getElem_toArray, List.getElem_cons_succ, List.getElem_cons_zero, List.setIfInBounds_toArray, List.set_cons_zero, List.set_cons_succ]
          refine AnyG.enter (fun w' : World => Below w_11.heap.size w_11 w') (fun i => true) ?_
          have hS : (fun w' : World => Below w_11.heap.size w_11 w') (World.drew _) := (Below.refl _ _).drew
          refine AnyG.takeNC (i := 3) rfl (by kernel_rfl) (fun _ _ _ h => h) (by first | (simp [Region.wanted, yielded]; done) | simp [Region.wanted, yielded, undef]) hS ?_
          try simp only [Act.put, List.getElem_toArray, List.getElem_cons_succ, List.getElem_cons_zero, List.setIfInBounds_toArray, List.set_cons_zero, List.set_cons_succ]
          refine AnyG.takeNC (i := 4) rfl (by kernel_rfl) (fun _ _ _ h => h) (by first | (simp [Region.wanted, yielded]; done) | simp [Region.wanted, yielded, undef]) hS ?_
          try simp only [Act.put, List.getElem_toArray, List.getElem_cons_succ, List.getElem_cons_zero, List.setIfInBounds_toArray, List.set_cons_zero, List.set_cons_succ]
          refine AnyG.takeNC (i := 5) rfl (by kernel_rfl) (fun _ _ _ h => h) (by first | (simp [Region.wanted, yielded]; done) | simp [Region.wanted, yielded, undef]) hS ?_
          try simp only [Act.put, List.getElem_toArray, List.getElem_cons_succ, List.getElem_cons_zero, List.setIfInBounds_toArray, List.set_cons_zero, List.set_cons_succ]
          refine AnyG.takeNC (i := 6) rfl (by kernel_rfl) (fun _ _ _ h => h) (by first | (simp [Region.wanted, yielded]; done) | simp [Region.wanted, yielded, undef]) hS ?_
          try simp only [Act.put, List.getElem_toArray, List.getElem_cons_succ, List.getElem_cons_zero, List.setIfInBounds_toArray, List.set_cons_zero, List.set_cons_succ]
          refine AnyG.takeNC (i := 7) rfl (by kernel_rfl) (fun _ _ _ h => h) (by first | (simp [Region.wanted, yielded]; done) | simp [Region.wanted, yielded, undef]) hS ?_
          try simp only [Act.put, List.getElem_toArray, List.getElem_cons_succ, List.getElem_cons_zero, List.setIfInBounds_toArray, List.set_cons_zero, List.set_cons_succ]
          refine AnyG.takeNC (i := 8) rfl (by kernel_rfl) (fun _ _ _ h => h) (by first | (simp [Region.wanted, yielded]; done) | simp [Region.wanted, yielded, undef]) hS ?_
          try simp only [Act.put, List.getElem_toArray, List.getElem_cons_succ, List.getElem_cons_zero, List.setIfInBounds_toArray, List.set_cons_zero, List.set_cons_succ]
          refine AnyG.takeNC (i := 9) rfl (by kernel_rfl) (fun _ _ _ h => h) (by first | (simp [Region.wanted, yielded]; done) | simp [Region.wanted, yielded, undef]) hS ?_
          try simp only [Act.put, List.getElem_toArray, List.getElem_cons_succ, List.getElem_cons_zero, List.setIfInBounds_toArray, List.set_cons_zero, List.set_cons_succ]
          refine AnyG.takeNC (i := 10) rfl (by kernel_rfl) (fun _ _ _ h => h) (by first | (simp [Region.wanted, yielded]; done) | simp [Region.wanted, yielded, undef]) hS ?_
          try simp only [Act.put, List.getElem_toArray, List.getElem_cons_succ, List.getElem_cons_zero, List.setIfInBounds_toArray, List.set_cons_zero, List.set_cons_succ]
          refine AnyG.takeNC (i := 11) rfl (by kernel_rfl) (fun _ _ _ h => h) (by first | (simp [Region.wanted, yielded]; done) | simp [Region.wanted, yielded, undef]) hS ?_
          try simp only [Act.put, List.getElem_toArray, List.getElem_cons_succ, List.getElem_cons_zero, List.setIfInBounds_toArray, List.set_cons_zero, List.set_cons_succ]
          refine AnyG.takeNC (i := 12) rfl (by kernel_rfl) (fun _ _ _ h => h) (by first | (simp [Region.wanted, yielded]; done) | simp [Region.wanted, yielded, undef]) hS ?_
          try simp only [Act.put, List.getElem_toArray, List.getElem_cons_succ, List.getElem_cons_zero, List.setIfInBounds_toArray, List.set_cons_zero, List.set_cons_succ]
          refine AnyG.takeC (i := 13) (v := ?_) rfl (by kernel_rfl) (fun _ _ _ h => h) rfl ?_ hS ?_
          rotate_left
          · (intro w' hSw; (try dsimp only at hSw); go_simp; try with_reducible rfl)
          try simp only [Act.put, List.getElem_toArray, List.getElem_cons_succ, List.getElem_cons_zero, List.setIfInBounds_toArray, List.set_cons_zero, List.set_cons_succ]
          refine AnyG.done (by kernel_rfl) ?_ _
          go_simp
          have k_12 := k_11.drew
          have B_12 := B_11.drew
          have kb_12 := kb_11.drew
          obtain ⟨c0_12, c1_12, c2_12, cf_12, cz_12⟩ := k_12.three'
          go_wp2_with (first
            | (go_at_call 67; refine (refRange_any _ _ _ _).mono ?_; rintro e_9 w_9 ⟨rfl, hb_9⟩; rw [HRR.out]; have B_9 := B_12.trans (hb_9.mono B_12.size); have BW_9 := BW.trans (((hb_11.drew).trans (hb_9.mono hb_11.size)).mono BW.size))
            | fail)
          go_roundw
          case rel => exact ⟨k + 1, some b.fr, by omega, by go_num, hd', Lib.hid (.inr ⟨k, b, rfl, HG.out, rfl⟩), BW_9⟩
          case measure => simp [intOf]; omega
        · have hz1 : (R != 0) = true := by simpa using hz
          have hd' : Hid (ckLvs none L = R) := Lib.hid (by rw [hd.out, hds, hck, if_pos hz])
          clear hds hAr hB hR hck hf
          go_wp2_with (first
            | (go_at_call 68; refine (btw_yes _ _ _ _ h1).mono ?_; rintro e_11 w_11 ⟨rfl, hb_11⟩; have k_11 := k0.call hb_11; have B_11 := B0.trans (hb_11.mono B0.size); have kb_11 := kb.call hb_11; obtain ⟨c0_11, c1_11, c2_11, cf_11, cz_11⟩ := k_11.three')
            | fail)
          refine AnyG.startC (by kernel_rfl) ?_
          refine AnyG.takeP (i := 0) (v := ?_) rfl (by kernel_rfl) (fun _ _ _ h => h) rfl ?_ ?_
          rotate_left
          · (intro w'; go_simp; try with_reducible rfl)
          try simp only [Act.put, List.getElem_toArray, List.getElem_cons_succ, List.getElem_cons_zero, List.setIfInBounds_toArray, List.set_cons_zero, List.set_cons_succ]
          refine AnyG.takeP (i := 1) (v := ?_) rfl (by kernel_rfl) (fun _ _ _ h => h) rfl ?_ ?_
          rotate_left
          · (intro w'; go_simp; try with_reducible rfl)
          try simp only [Act.put, List.getElem_toArray, List.getElem_cons_succ, List.getElem_cons_zero, List.setIfInBounds_toArray, List.set_cons_zero, List.set_cons_succ]
          refine AnyG.takeP (i := 2) (v := ?_) rfl (by kernel_rfl) (fun _ _ _ h => h) rfl ?_ ?_
          rotate_left
          · (intro w'; go_simp; try with_reducible rfl)
          try simp only [Act.put, List.getElem_toArray, List.getElem_cons_succ, List.getElem_cons_zero, List.setIfInBounds_toArray, List.set_cons_zero, List.set_cons_succ]
          refine AnyG.enter (fun w' : World => Below w_11.heap.size w_11 w') (fun i => true) ?_
          have hS : (fun w' : World => Below w_11.heap.size w_11 w') (World.drew _) := (Below.refl _ _).drew
          refine AnyG.takeNC (i := 3) rfl (by kernel_rfl) (fun _ _ _ h => h) (by first | (simp [Region.wanted, yielded]; done) | simp [Region.wanted, yielded, undef]) hS ?_
          try simp only [Act.put, List.getElem_toArray, List.getElem_cons_succ, List.getElem_cons_zero, List.setIfInBounds_toArray, List.set_cons_zero, List.set_cons_succ]
          refine AnyG.takeNC (i := 4) rfl (by kernel_rfl) (fun _ _ _ h => h) (by first | (simp [Region.wanted, yielded]; done) | simp [Region.wanted, yielded, undef]) hS ?_
          try simp only [Act.put, List.getElem_toArray, List.getElem_cons_succ, List.getElem_cons_zero, List.setIfInBounds_toArray, List.set_cons_zero, List.set_cons_succ]
          refine AnyG.takeNC (i := 5) rfl (by kernel_rfl) (fun _ _ _ h => h) (by first | (simp [Region.wanted, yielded]; done) | simp [Region.wanted, yielded, undef]) hS ?_
          try simp only [Act.put, List.getElem_toArray, List.getElem_cons_succ, List.getElem_cons_zero, List.setIfInBounds_toArray, List.set_cons_zero, List.set_cons_succ]
          refine AnyG.takeNC (i := 6) rfl (by kernel_rfl) (fun _ _ _ h => h) (by first | (simp [Region.wanted, yielded]; done) | simp [Region.wanted, yielded, undef]) hS ?_
          try simp only [Act.put, List.getElem_toArray, List.getElem_cons_succ, List.getElem_cons_zero, List.setIfInBounds_toArray, List.set_cons_zero, List.set_cons_succ]
          refine AnyG.takeNC (i := 7) rfl (by kernel_rfl) (fun _ _ _ h => h) (by first | (simp [Region.wanted, yielded]; done) | simp [Region.wanted, yielded, undef]) hS ?_
          try simp only [Act.put, List.getElem_toArray, List.getElem_cons_succ, List.getElem_cons_zero, List.setIfInBounds_toArray, List.set_cons_zero, List.set_cons_succ]
          refine AnyG.takeNC (i := 8) rfl (by kernel_rfl) (fun _ _ _ h => h) (by first | (simp [Region.wanted, yielded]; done) | simp [Region.wanted, yielded, undef]) hS ?_
          try simp only [Act.put, List.getElem_toArray, List.getElem_cons_succ, List.getElem_cons_zero, List.setIfInBounds_toArray, List.set_cons_zero, List.set_cons_succ]
          refine AnyG.takeNC (i := 9) rfl (by kernel_rfl) (fun _ _ _ h => h) (by first | (simp [Region.wanted, yielded]; done) | simp [Region.wanted, yielded, undef]) hS ?_
          try simp only [Act.put, List.getElem_toArray, List.getElem_cons_succ, List.getElem_cons_zero, List.setIfInBounds_toArray, List.set_cons_zero, List.set_cons_succ]
          refine AnyG.takeNC (i := 10) rfl (by kernel_rfl) (fun _ _ _ h => h) (by first | (simp [Region.wanted, yielded]; done) | simp [Region.wanted, yielded, undef]) hS ?_
          try simp only [Act.put, List.getElem_toArray, List.getElem_cons_succ, List.getElem_cons_zero, List.setIfInBounds_toArray, List.set_cons_zero, List.set_cons_succ]
          refine AnyG.takeNC (i := 11) rfl (by kernel_rfl) (fun _ _ _ h => h) (by first | (simp [Region.wanted, yielded]; done) | simp [Region.wanted, yielded, undef]) hS ?_
          try simp only [Act.put, List.getElem_toArray, List.getElem_cons_succ, List.getElem_cons_zero, List.setIfInBounds_toArray, List.set_cons_zero, List.set_cons_succ]
          refine AnyG.takeNC (i := 12) rfl (by kernel_rfl) (fun _ _ _ h => h) (by first | (simp [Region.wanted, yielded]; done) | simp [Region.wanted, yielded, undef]) hS ?_
          try simp only [Act.put, List.getElem_toArray, List.getElem_cons_succ, List.getElem_cons_zero, List.setIfInBounds_toArray, List.set_cons_zero, List.set_cons_succ]
          refine AnyG.takeC (i := 13) (v := ?_) rfl (by kernel_rfl) (fun _ _ _ h => h) rfl ?_ hS ?_
          rotate_left
          · (intro w' hSw; (try dsimp only at hSw); go_simp; try with_reducible rfl)
          try simp only [Act.put, List.getElem_toArray, List.getElem_cons_succ, List.getElem_cons_zero, List.setIfInBounds_toArray, List.set_cons_zero, List.set_cons_succ]
          refine AnyG.done (by kernel_rfl) ?_ _
          go_simp
          have k_12 := k_11.drew
          have B_12 := B_11.drew
          have kb_12 := kb_11.drew
          obtain ⟨c0_12, c1_12, c2_12, cf_12, cz_12⟩ := k_12.three'
          go_wp2_with (first
            | (go_at_call 67; refine (refRange_any _ _ _ _).mono ?_; rintro e_9 w_9 ⟨rfl, hb_9⟩; rw [HRR.out]; have B_9 := B_12.trans (hb_9.mono B_12.size); have BW_9 := BW.trans (((hb_11.drew).trans (hb_9.mono hb_11.size)).mono BW.size))
            | fail)
          go_ret
          exact ⟨ret_int (HR0.out.trans hd'.out).symm, B_9⟩
      · have hjk : j < L.length := (List.getElem?_eq_some_iff.1 hjl).1
        obtain ⟨ad', e, _, p0, _, _⟩ := lv_at hAr hjk
        obtain rfl := Option.some.inj e
        rw [(List.getElem?_eq_some_iff.1 hjl).2] at p0
        have hkw : IntKind.i64.wrap ((k : Int) - 1) = (j : Int) := by rw [hj]; exact (IntWalk.i64_in _ (by omega)).trans (by omega)
        have hj0 : (0 : Int) < (k : Int) := by omega
        have hjn : j < n := by omega
        have hkp : 0 < k := by omega
        have hkz : decide (0 < (k : Int)) = true := by simpa using hj0
        have hkz2 : decide (0 < k) = true := by simpa using hkp
        have hke0 : ((k : Int) == 0) = false := by simp; omega
        have p0 := cellA (o := .cells #[.int .i64 b.fr, .int .i64 b.d0, .int .i64 b.d1] 75) p0
        have HJ := Lib.hid hj
        clear hj
        by_cases hf : b.fr ≤ l.fr
        case pos =>
          have hd' : Hid (ckLvs none L = 5) := Lib.hid (by rw [hd.out, hds, show ckLv (some l.fr) b = 5 by unfold ckLv; rw [if_neg (fun h => h h1)]; exact if_pos hf]; simp)
          clear hds hAr hB hR hjl
          go_wp2_with (first
            | (go_at_call 68; refine (btw_yes _ _ _ _ h1).mono ?_; rintro e_11 w_11 ⟨rfl, hb_11⟩; have k_11 := k0.call hb_11; have B_11 := B0.trans (hb_11.mono B0.size); have kb_11 := kb.call hb_11; obtain ⟨c0_11, c1_11, c2_11, cf_11, cz_11⟩ := k_11.three')
            | fail)
          have p0 := cellC hb_11 p0
          refine AnyG.startC (by kernel_rfl) ?_
          refine AnyG.takeP (i := 0) (v := ?_) rfl (by kernel_rfl) (fun _ _ _ h => h) rfl ?_ ?_
          rotate_left
          · (intro w'; go_simp; try with_reducible rfl)
          try simp only [Act.put, List.getElem_toArray, List.getElem_cons_succ, List.getElem_cons_zero, List.setIfInBounds_toArray, List.set_cons_zero, List.set_cons_succ]
          refine AnyG.takeP (i := 1) (v := ?_) rfl (by kernel_rfl) (fun _ _ _ h => h) rfl ?_ ?_
          rotate_left
          · (intro w'; go_simp; try with_reducible rfl)
          try simp only [Act.put, List.getElem_toArray, List.getElem_cons_succ, List.getElem_cons_zero, List.setIfInBounds_toArray, List.set_cons_zero, List.set_cons_succ]
          refine AnyG.takeP (i := 2) (v := ?_) rfl (by kernel_rfl) (fun _ _ _ h => h) rfl ?_ ?_
          rotate_left
          · (intro w'; go_simp; try with_reducible rfl)
          try simp only [Act.put, List.getElem_toArray, List.getElem_cons_succ, List.getElem_cons_zero, List.setIfInBounds_toArray, List.set_cons_zero, List.set_cons_succ]
          refine AnyG.enter (fun w' : World => Below w_11.heap.size w_11 w') (fun i => true) ?_
          have hS : (fun w' : World => Below w_11.heap.size w_11 w') (World.drew _) := (Below.refl _ _).drew
          refine AnyG.takeGC (i := 3) (v := ?_) rfl (by kernel_rfl) (fun _ _ _ h => h) (by first | (simp [Region.wanted, yielded]; done) | simp [Region.wanted, yielded, undef]) ?_ hS ?_
          rotate_left
          · (intro w' hSw; (try dsimp only at hSw); go_simp; try with_reducible rfl)
          try simp only [Act.put, List.getElem_toArray, List.getElem_cons_succ, List.getElem_cons_zero, List.setIfInBounds_toArray, List.set_cons_zero, List.set_cons_succ]
          refine AnyG.takeGC (i := 4) (v := ?_) rfl (by kernel_rfl) (fun _ _ _ h => h) (by first | (simp [Region.wanted, yielded]; done) | simp [Region.wanted, yielded, undef]) ?_ hS ?_
          rotate_left
          · (intro w' hSw; (try dsimp only at hSw); obtain ⟨x0, x1, x2, xf, xz⟩ := (k_11.call hSw).three'; go_simp; try with_reducible rfl)
          try simp only [Act.put, List.getElem_toArray, List.getElem_cons_succ, List.getElem_cons_zero, List.setIfInBounds_toArray, List.set_cons_zero, List.set_cons_succ]
          refine AnyG.takeGC (i := 5) (v := ?_) rfl (by kernel_rfl) (fun _ _ _ h => h) (by first | (simp [Region.wanted, yielded]; done) | simp [Region.wanted, yielded, undef]) ?_ hS ?_
          rotate_left
          · (intro w' hSw; (try dsimp only at hSw); go_simp; try with_reducible rfl)
          try simp only [Act.put, List.getElem_toArray, List.getElem_cons_succ, List.getElem_cons_zero, List.setIfInBounds_toArray, List.set_cons_zero, List.set_cons_succ]
          refine AnyG.takeGC (i := 6) (v := ?_) rfl (by kernel_rfl) (fun _ _ _ h => h) (by first | (simp [Region.wanted, yielded]; done) | simp [Region.wanted, yielded, undef]) ?_ hS ?_
          rotate_left
          · (intro w' hSw; (try dsimp only at hSw); obtain ⟨y0, y1, y2, yf, yz⟩ := (kb_11.call hSw).three'; go_simp; try with_reducible rfl)
          try simp only [Act.put, List.getElem_toArray, List.getElem_cons_succ, List.getElem_cons_zero, List.setIfInBounds_toArray, List.set_cons_zero, List.set_cons_succ]
          refine AnyG.takeGC (i := 7) (v := ?_) rfl (by kernel_rfl) (fun _ _ _ h => h) (by first | (simp [Region.wanted, yielded]; done) | simp [Region.wanted, yielded, undef]) ?_ hS ?_
          rotate_left
          · (intro w' hSw; (try dsimp only at hSw); go_simp; try with_reducible rfl)
          try simp only [Act.put, List.getElem_toArray, List.getElem_cons_succ, List.getElem_cons_zero, List.setIfInBounds_toArray, List.set_cons_zero, List.set_cons_succ]
          refine AnyG.takeGC (i := 8) (v := ?_) rfl (by kernel_rfl) (fun _ _ _ h => h) (by first | (simp [Region.wanted, yielded]; done) | simp [Region.wanted, yielded, undef]) ?_ hS ?_
          rotate_left
          · (intro w' hSw; (try dsimp only at hSw); go_simp; try with_reducible rfl)
          try simp only [Act.put, List.getElem_toArray, List.getElem_cons_succ, List.getElem_cons_zero, List.setIfInBounds_toArray, List.set_cons_zero, List.set_cons_succ]
          refine AnyG.takeGC (i := 9) (v := ?_) rfl (by kernel_rfl) (fun _ _ _ h => h) (by first | (simp [Region.wanted, yielded]; done) | simp [Region.wanted, yielded, undef]) ?_ hS ?_
          rotate_left
          · (intro w' hSw; (try dsimp only at hSw); go_simp; try with_reducible rfl)
          try simp only [Act.put, List.getElem_toArray, List.getElem_cons_succ, List.getElem_cons_zero, List.setIfInBounds_toArray, List.set_cons_zero, List.set_cons_succ]
          refine AnyG.takeGC (i := 10) (v := ?_) rfl (by kernel_rfl) (fun _ _ _ h => h) (by first | (simp [Region.wanted, yielded]; done) | simp [Region.wanted, yielded, undef]) ?_ hS ?_
          rotate_left
          · (intro w' hSw; (try dsimp only at hSw); go_simp; try with_reducible rfl)
          try simp only [Act.put, List.getElem_toArray, List.getElem_cons_succ, List.getElem_cons_zero, List.setIfInBounds_toArray, List.set_cons_zero, List.set_cons_succ]
          refine AnyG.takeGC (i := 11) (v := ?_) rfl (by kernel_rfl) (fun _ _ _ h => h) (by first | (simp [Region.wanted, yielded]; done) | simp [Region.wanted, yielded, undef]) ?_ hS ?_
          rotate_left
          · (intro w' hSw; (try dsimp only at hSw); have p0 := cellC hSw p0; go_simp; try with_reducible rfl)
          try simp only [Act.put, List.getElem_toArray, List.getElem_cons_succ, List.getElem_cons_zero, List.setIfInBounds_toArray, List.set_cons_zero, List.set_cons_succ]
          refine AnyG.takeGC (i := 12) (v := ?_) rfl (by kernel_rfl) (fun _ _ _ h => h) (by first | (simp [Region.wanted, yielded]; done) | simp [Region.wanted, yielded, undef]) ?_ hS ?_
          rotate_left
          · (intro w' hSw; (try dsimp only at hSw); go_simp; try with_reducible rfl)
          try simp only [Act.put, List.getElem_toArray, List.getElem_cons_succ, List.getElem_cons_zero, List.setIfInBounds_toArray, List.set_cons_zero, List.set_cons_succ]
          refine AnyG.takeC (i := 13) (v := ?_) rfl (by kernel_rfl) (fun _ _ _ h => h) rfl ?_ hS ?_
          rotate_left
          · (intro w' hSw; (try dsimp only at hSw); go_simp; try with_reducible rfl)
          try simp only [Act.put, List.getElem_toArray, List.getElem_cons_succ, List.getElem_cons_zero, List.setIfInBounds_toArray, List.set_cons_zero, List.set_cons_succ]
          refine AnyG.done (by kernel_rfl) ?_ _
          go_simp
          go_wp2_with fail
          go_ret
          exact ⟨ret_int (HR0.out.trans hd'.out).symm, B_11.drew⟩
        have hck : ckLv (some l.fr) b = R := by unfold ckLv; rw [if_neg (fun h => h h1)]; exact (if_neg hf).trans hR
        by_cases hz : R = 0
        · subst hz
          have hd' : Hid (ckLvs none L = ckLvs (some b.fr) (L.drop (k + 1))) := Lib.hid (by rw [hd.out, hds, hck]; simp)
          clear hds hAr hB hR hck hjl
          go_wp2_with (first
            | (go_at_call 68; refine (btw_yes _ _ _ _ h1).mono ?_; rintro e_11 w_11 ⟨rfl, hb_11⟩; have k_11 := k0.call hb_11; have B_11 := B0.trans (hb_11.mono B0.size); have kb_11 := kb.call hb_11; obtain ⟨c0_11, c1_11, c2_11, cf_11, cz_11⟩ := k_11.three')
            | fail)
          have p0 := cellC hb_11 p0
          refine AnyG.startC (by kernel_rfl) ?_
          refine AnyG.takeP (i := 0) (v := ?_) rfl (by kernel_rfl) (fun _ _ _ h => h) rfl ?_ ?_
          rotate_left
          · (intro w'; go_simp; try with_reducible rfl)
          try simp only [Act.put, List.getElem_toArray, List.getElem_cons_succ, List.getElem_cons_zero, List.setIfInBounds_toArray, List.set_cons_zero, List.set_cons_succ]
          refine AnyG.takeP (i := 1) (v := ?_) rfl (by kernel_rfl) (fun _ _ _ h => h) rfl ?_ ?_
          rotate_left
          · (intro w'; go_simp; try with_reducible rfl)
          try simp only [Act.put, List.getElem_toArray, List.getElem_cons_succ, List.getElem_cons_zero, List.setIfInBounds_toArray, List.set_cons_zero, List.set_cons_succ]
          refine AnyG.takeP (i := 2) (v := ?_) rfl (by kernel_rfl) (fun _ _ _ h => h) rfl ?_ ?_
          rotate_left
          · (intro w'; go_simp; try with_reducible rfl)
          try simp only [Act.put, List.getElem_toArray, List.getElem_cons_succ, List.getElem_cons_zero, List.setIfInBounds_toArray, List.set_cons_zero, List.set_cons_succ]
          refine AnyG.enter (fun w' : World => Below w_11.heap.size w_11 w') (fun i => true) ?_
          have hS : (fun w' : World => Below w_11.heap.size w_11 w') (World.drew _) := (Below.refl _ _).drew
          refine AnyG.takeGC (i := 3) (v := ?_) rfl (by kernel_rfl) (fun _ _ _ h => h) (by first | (simp [Region.wanted, yielded]; done) | simp [Region.wanted, yielded, undef]) ?_ hS ?_
          rotate_left
          · (intro w' hSw; (try dsimp only at hSw); go_simp; try with_reducible rfl)
          try simp only [Act.put, List.getElem_toArray, List.getElem_cons_succ, List.getElem_cons_zero, List.setIfInBounds_toArray, List.set_cons_zero, List.set_cons_succ]
          refine AnyG.takeGC (i := 4) (v := ?_) rfl (by kernel_rfl) (fun _ _ _ h => h) (by first | (simp [Region.wanted, yielded]; done) | simp [Region.wanted, yielded, undef]) ?_ hS ?_
          rotate_left
          · (intro w' hSw; (try dsimp only at hSw); obtain ⟨x0, x1, x2, xf, xz⟩ := (k_11.call hSw).three'; go_simp; try with_reducible rfl)
          try simp only [Act.put, List.getElem_toArray, List.getElem_cons_succ, List.getElem_cons_zero, List.setIfInBounds_toArray, List.set_cons_zero, List.set_cons_succ]
          refine AnyG.takeGC (i := 5) (v := ?_) rfl (by kernel_rfl) (fun _ _ _ h => h) (by first | (simp [Region.wanted, yielded]; done) | simp [Region.wanted, yielded, undef]) ?_ hS ?_
          rotate_left
          · (intro w' hSw; (try dsimp only at hSw); go_simp; try with_reducible rfl)
          try simp only [Act.put, List.getElem_toArray, List.getElem_cons_succ, List.getElem_cons_zero, List.setIfInBounds_toArray, List.set_cons_zero, List.set_cons_succ]
          refine AnyG.takeGC (i := 6) (v := ?_) rfl (by kernel_rfl) (fun _ _ _ h => h) (by first | (simp [Region.wanted, yielded]; done) | simp [Region.wanted, yielded, undef]) ?_ hS ?_
          rotate_left
          · (intro w' hSw; (try dsimp only at hSw); obtain ⟨y0, y1, y2, yf, yz⟩ := (kb_11.call hSw).three'; go_simp; try with_reducible rfl)
          try simp only [Act.put, List.getElem_toArray, List.getElem_cons_succ, List.getElem_cons_zero, List.setIfInBounds_toArray, List.set_cons_zero, List.set_cons_succ]
          refine AnyG.takeGC (i := 7) (v := ?_) rfl (by kernel_rfl) (fun _ _ _ h => h) (by first | (simp [Region.wanted, yielded]; done) | simp [Region.wanted, yielded, undef]) ?_ hS ?_
          rotate_left
          · (intro w' hSw; (try dsimp only at hSw); go_simp; try with_reducible rfl)
          try simp only [Act.put, List.getElem_toArray, List.getElem_cons_succ, List.getElem_cons_zero, List.setIfInBounds_toArray, List.set_cons_zero, List.set_cons_succ]
          refine AnyG.takeGC (i := 8) (v := ?_) rfl (by kernel_rfl) (fun _ _ _ h => h) (by first | (simp [Region.wanted, yielded]; done) | simp [Region.wanted, yielded, undef]) ?_ hS ?_
          rotate_left
          · (intro w' hSw; (try dsimp only at hSw); go_simp; try with_reducible rfl)
          try simp only [Act.put, List.getElem_toArray, List.getElem_cons_succ, List.getElem_cons_zero, List.setIfInBounds_toArray, List.set_cons_zero, List.set_cons_succ]
          refine AnyG.takeGC (i := 9) (v := ?_) rfl (by kernel_rfl) (fun _ _ _ h => h) (by first | (simp [Region.wanted, yielded]; done) | simp [Region.wanted, yielded, undef]) ?_ hS ?_
          rotate_left
          · (intro w' hSw; (try dsimp only at hSw); go_simp; try with_reducible rfl)
          try simp only [Act.put, List.getElem_toArray, List.getElem_cons_succ, List.getElem_cons_zero, List.setIfInBounds_toArray, List.set_cons_zero, List.set_cons_succ]
          refine AnyG.takeGC (i := 10) (v := ?_) rfl (by kernel_rfl) (fun _ _ _ h => h) (by first | (simp [Region.wanted, yielded]; done) | simp [Region.wanted, yielded, undef]) ?_ hS ?_
          rotate_left
          · (intro w' hSw; (try dsimp only at hSw); go_simp; try with_reducible rfl)
          try simp only [Act.put, List.getElem_toArray, List.getElem_cons_succ, List.getElem_cons_zero, List.setIfInBounds_toArray, List.set_cons_zero, List.set_cons_succ]
          refine AnyG.takeGC (i := 11) (v := ?_) rfl (by kernel_rfl) (fun _ _ _ h => h) (by first | (simp [Region.wanted, yielded]; done) | simp [Region.wanted, yielded, undef]) ?_ hS ?_
          rotate_left
          · (intro w' hSw; (try dsimp only at hSw); have p0 := cellC hSw p0; go_simp; try with_reducible rfl)
          try simp only [Act.put, List.getElem_toArray, List.getElem_cons_succ, List.getElem_cons_zero, List.setIfInBounds_toArray, List.set_cons_zero, List.set_cons_succ]
          refine AnyG.takeGC (i := 12) (v := ?_) rfl (by kernel_rfl) (fun _ _ _ h => h) (by first | (simp [Region.wanted, yielded]; done) | simp [Region.wanted, yielded, undef]) ?_ hS ?_
          rotate_left
          · (intro w' hSw; (try dsimp only at hSw); go_simp; try with_reducible rfl)
          try simp only [Act.put, List.getElem_toArray, List.getElem_cons_succ, List.getElem_cons_zero, List.setIfInBounds_toArray, List.set_cons_zero, List.set_cons_succ]
          refine AnyG.takeC (i := 13) (v := ?_) rfl (by kernel_rfl) (fun _ _ _ h => h) rfl ?_ hS ?_
          rotate_left
          · (intro w' hSw; (try dsimp only at hSw); go_simp; try with_reducible rfl)
          try simp only [Act.put, List.getElem_toArray, List.getElem_cons_succ, List.getElem_cons_zero, List.setIfInBounds_toArray, List.set_cons_zero, List.set_cons_succ]
          refine AnyG.done (by kernel_rfl) ?_ _
          go_simp
          have k_12 := k_11.drew
          have B_12 := B_11.drew
          have kb_12 := kb_11.drew
          obtain ⟨c0_12, c1_12, c2_12, cf_12, cz_12⟩ := k_12.three'
          go_wp2_with (first
            | (go_at_call 67; refine (refRange_any _ _ _ _).mono ?_; rintro e_9 w_9 ⟨rfl, hb_9⟩; rw [HRR.out]; have B_9 := B_12.trans (hb_9.mono B_12.size); have BW_9 := BW.trans (((hb_11.drew).trans (hb_9.mono hb_11.size)).mono BW.size))
            | fail)
          go_roundw
          case rel => exact ⟨k + 1, some b.fr, by omega, by go_num, hd', Lib.hid (.inr ⟨k, b, rfl, HG.out, rfl⟩), BW_9⟩
          case measure => simp [intOf]; omega
        · have hz1 : (R != 0) = true := by simpa using hz
          have hd' : Hid (ckLvs none L = R) := Lib.hid (by rw [hd.out, hds, hck, if_pos hz])
          clear hds hAr hB hR hck hjl
          go_wp2_with (first
            | (go_at_call 68; refine (btw_yes _ _ _ _ h1).mono ?_; rintro e_11 w_11 ⟨rfl, hb_11⟩; have k_11 := k0.call hb_11; have B_11 := B0.trans (hb_11.mono B0.size); have kb_11 := kb.call hb_11; obtain ⟨c0_11, c1_11, c2_11, cf_11, cz_11⟩ := k_11.three')
            | fail)
          have p0 := cellC hb_11 p0
          refine AnyG.startC (by kernel_rfl) ?_
          refine AnyG.takeP (i := 0) (v := ?_) rfl (by kernel_rfl) (fun _ _ _ h => h) rfl ?_ ?_
          rotate_left
          · (intro w'; go_simp; try with_reducible rfl)
          try simp only [Act.put, List.getElem_toArray, List.getElem_cons_succ, List.getElem_cons_zero, List.setIfInBounds_toArray, List.set_cons_zero, List.set_cons_succ]
          refine AnyG.takeP (i := 1) (v := ?_) rfl (by kernel_rfl) (fun _ _ _ h => h) rfl ?_ ?_
          rotate_left
          · (intro w'; go_simp; try with_reducible rfl)
          try simp only [Act.put, List.getElem_toArray, List.getElem_cons_succ, List.getElem_cons_zero, List.setIfInBounds_toArray, List.set_cons_zero, List.set_cons_succ]
          refine AnyG.takeP (i := 2) (v := ?_) rfl (by kernel_rfl) (fun _ _ _ h => h) rfl ?_ ?_
          rotate_left
          · (intro w'; go_simp; try with_reducible rfl)
          try simp only [Act.put, List.getElem_toArray, List.getElem_cons_succ, List.getElem_cons_zero, List.setIfInBounds_toArray, List.set_cons_zero, List.set_cons_succ]
          refine AnyG.enter (fun w' : World => Below w_11.heap.size w_11 w') (fun i => true) ?_
          have hS : (fun w' : World => Below w_11.heap.size w_11 w') (World.drew _) := (Below.refl _ _).drew
          refine AnyG.takeGC (i := 3) (v := ?_) rfl (by kernel_rfl) (fun _ _ _ h => h) (by first | (simp [Region.wanted, yielded]; done) | simp [Region.wanted, yielded, undef]) ?_ hS ?_
          rotate_left
          · (intro w' hSw; (try dsimp only at hSw); go_simp; try with_reducible rfl)
          try simp only [Act.put, List.getElem_toArray, List.getElem_cons_succ, List.getElem_cons_zero, List.setIfInBounds_toArray, List.set_cons_zero, List.set_cons_succ]
          refine AnyG.takeGC (i := 4) (v := ?_) rfl (by kernel_rfl) (fun _ _ _ h => h) (by first | (simp [Region.wanted, yielded]; done) | simp [Region.wanted, yielded, undef]) ?_ hS ?_
          rotate_left
          · (intro w' hSw; (try dsimp only at hSw); obtain ⟨x0, x1, x2, xf, xz⟩ := (k_11.call hSw).three'; go_simp; try with_reducible rfl)
          try simp only [Act.put, List.getElem_toArray, List.getElem_cons_succ, List.getElem_cons_zero, List.setIfInBounds_toArray, List.set_cons_zero, List.set_cons_succ]
          refine AnyG.takeGC (i := 5) (v := ?_) rfl (by kernel_rfl) (fun _ _ _ h => h) (by first | (simp [Region.wanted, yielded]; done) | simp [Region.wanted, yielded, undef]) ?_ hS ?_
          rotate_left
          · (intro w' hSw; (try dsimp only at hSw); go_simp; try with_reducible rfl)
          try simp only [Act.put, List.getElem_toArray, List.getElem_cons_succ, List.getElem_cons_zero, List.setIfInBounds_toArray, List.set_cons_zero, List.set_cons_succ]
          refine AnyG.takeGC (i := 6) (v := ?_) rfl (by kernel_rfl) (fun _ _ _ h => h) (by first | (simp [Region.wanted, yielded]; done) | simp [Region.wanted, yielded, undef]) ?_ hS ?_
          rotate_left
          · (intro w' hSw; (try dsimp only at hSw); obtain ⟨y0, y1, y2, yf, yz⟩ := (kb_11.call hSw).three'; go_simp; try with_reducible rfl)
          try simp only [Act.put, List.getElem_toArray, List.getElem_cons_succ, List.getElem_cons_zero, List.setIfInBounds_toArray, List.set_cons_zero, List.set_cons_succ]
          refine AnyG.takeGC (i := 7) (v := ?_) rfl (by kernel_rfl) (fun _ _ _ h => h) (by first | (simp [Region.wanted, yielded]; done) | simp [Region.wanted, yielded, undef]) ?_ hS ?_
          rotate_left
          · (intro w' hSw; (try dsimp only at hSw); go_simp; try with_reducible rfl)
          try simp only [Act.put, List.getElem_toArray, List.getElem_cons_succ, List.getElem_cons_zero, List.setIfInBounds_toArray, List.set_cons_zero, List.set_cons_succ]
          refine AnyG.takeGC (i := 8) (v := ?_) rfl (by kernel_rfl) (fun _ _ _ h => h) (by first | (simp [Region.wanted, yielded]; done) | simp [Region.wanted, yielded, undef]) ?_ hS ?_
          rotate_left
          · (intro w' hSw; (try dsimp only at hSw); go_simp; try with_reducible rfl)
          try simp only [Act.put, List.getElem_toArray, List.getElem_cons_succ, List.getElem_cons_zero, List.setIfInBounds_toArray, List.set_cons_zero, List.set_cons_succ]
          refine AnyG.takeGC (i := 9) (v := ?_) rfl (by kernel_rfl) (fun _ _ _ h => h) (by first | (simp [Region.wanted, yielded]; done) | simp [Region.wanted, yielded, undef]) ?_ hS ?_
          rotate_left
          · (intro w' hSw; (try dsimp only at hSw); go_simp; try with_reducible rfl)
          try simp only [Act.put, List.getElem_toArray, List.getElem_cons_succ, List.getElem_cons_zero, List.setIfInBounds_toArray, List.set_cons_zero, List.set_cons_succ]
          refine AnyG.takeGC (i := 10) (v := ?_) rfl (by kernel_rfl) (fun _ _ _ h => h) (by first | (simp [Region.wanted, yielded]; done) | simp [Region.wanted, yielded, undef]) ?_ hS ?_
          rotate_left
          · (intro w' hSw; (try dsimp only at hSw); go_simp; try with_reducible rfl)
          try simp only [Act.put, List.getElem_toArray, List.getElem_cons_succ, List.getElem_cons_zero, List.setIfInBounds_toArray, List.set_cons_zero, List.set_cons_succ]
          refine AnyG.takeGC (i := 11) (v := ?_) rfl (by kernel_rfl) (fun _ _ _ h => h) (by first | (simp [Region.wanted, yielded]; done) | simp [Region.wanted, yielded, undef]) ?_ hS ?_
          rotate_left
          · (intro w' hSw; (try dsimp only at hSw); have p0 := cellC hSw p0; go_simp; try with_reducible rfl)
          try simp only [Act.put, List.getElem_toArray, List.getElem_cons_succ, List.getElem_cons_zero, List.setIfInBounds_toArray, List.set_cons_zero, List.set_cons_succ]
          refine AnyG.takeGC (i := 12) (v := ?_) rfl (by kernel_rfl) (fun _ _ _ h => h) (by first | (simp [Region.wanted, yielded]; done) | simp [Region.wanted, yielded, undef]) ?_ hS ?_
          rotate_left
          · (intro w' hSw; (try dsimp only at hSw); go_simp; try with_reducible rfl)
          try simp only [Act.put, List.getElem_toArray, List.getElem_cons_succ, List.getElem_cons_zero, List.setIfInBounds_toArray, List.set_cons_zero, List.set_cons_succ]
          refine AnyG.takeC (i := 13) (v := ?_) rfl (by kernel_rfl) (fun _ _ _ h => h) rfl ?_ hS ?_
          rotate_left
          · (intro w' hSw; (try dsimp only at hSw); go_simp; try with_reducible rfl)
          try simp only [Act.put, List.getElem_toArray, List.getElem_cons_succ, List.getElem_cons_zero, List.setIfInBounds_toArray, List.set_cons_zero, List.set_cons_succ]
          refine AnyG.done (by kernel_rfl) ?_ _
          go_simp
          have k_12 := k_11.drew
          have B_12 := B_11.drew
          have kb_12 := kb_11.drew
          obtain ⟨c0_12, c1_12, c2_12, cf_12, cz_12⟩ := k_12.three'
          go_wp2_with (first
            | (go_at_call 67; refine (refRange_any _ _ _ _).mono ?_; rintro e_9 w_9 ⟨rfl, hb_9⟩; rw [HRR.out]; have B_9 := B_12.trans (hb_9.mono B_12.size); have BW_9 := BW.trans (((hb_11.drew).trans (hb_9.mono hb_11.size)).mono BW.size))
            | fail)
          go_ret
          exact ⟨ret_int (HR0.out.trans hd'.out).symm, B_9⟩
    · have hd' : Hid (ckLvs none L = 0) := by unfold Hid; rw [hd.out, List.drop_eq_nil_of_le (by rw [HL.out]; omega)]; rcases hq.out with ⟨_, rfl⟩ | ⟨_, _, _, _, rfl⟩ <;> rfl
      obtain ⟨s0, s1, s2, sf, sz⟩ := kb0.three'
      go_wp2_with fail
      go_ret
      exact ⟨ret_int (HR0.out.trans hd'.out).symm, BR⟩
end Go.Proofs.Ytfcpjkofbejleaa
