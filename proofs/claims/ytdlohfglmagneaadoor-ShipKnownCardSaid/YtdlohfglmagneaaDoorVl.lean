/- checkLevels, checkSills, Check. -/
import Derived.Test.YtdlohfglmagneaaDoorVkM
set_option linter.unusedSimpArgs false
set_option linter.unusedVariables false
namespace Go.Proofs.YtdlohfglmagneaaDoor
open Go Go.RowKit
theorem ckLvs_step {L : List Lv} {k : Nat} (p : Option Int) (hk : k < L.length) : ckLvs p (L.drop k) = if ckLv p L[k] ≠ 0 then ckLv p L[k] else ckLvs (some L[k].fr) (L.drop (k + 1)) := by
  rw [List.drop_eq_getElem_cons hk, ckLvs]
set_option maxRecDepth 100000 in
set_option maxHeartbeats 1600000 in
theorem checkLevels_any (A : Option Addr) (n c : Nat) (L : List Lv) (w : World) (hn : n ≤ 9223372036854775807) (hl : L.length = n) (hA : Sl w w.heap.size 3 A (L.map lvr)) :
    Calls Tryd.prog 38 #[.slice A n c] w fun e w' => e = .returned (.int .i64 (ckLl L)) ∧ Below w.heap.size w w' := by
  have HL := Lib.hid hl
  clear hl
  by_cases h7 : n < 1
  · have HR : Hid (ckLl L = 7) := Lib.hid (by unfold ckLl; rw [if_pos (by rw [HL.out]; exact h7)])
    go_enter Tryd.func38, Tryd.ntmps38
    go_wp2_with (go_at_call 36; refine (count_few _ _ _ _ (by omega)).mono ?_; rintro e w1 ⟨rfl, hb⟩)
    go_ret
    exact ⟨ret_int HR.out.symm, hb⟩
  by_cases h6 : 6 < n
  · have HR : Hid (ckLl L = 6) := Lib.hid (by unfold ckLl; rw [if_neg (by rw [HL.out]; omega)]; rw [if_pos (by rw [HL.out]; exact h6)])
    go_enter Tryd.func38, Tryd.ntmps38
    go_wp2_with (go_at_call 36; refine (count_many _ _ _ _ (by omega)).mono ?_; rintro e w1 ⟨rfl, hb⟩)
    go_ret
    exact ⟨ret_int HR.out.symm, hb⟩
  have HR0 : Hid (ckLl L = ckLvs none L) := Lib.hid (by unfold ckLl; rw [if_neg (by rw [HL.out]; omega)]; rw [if_neg (by rw [HL.out]; omega)])
  go_enter Tryd.func38, Tryd.ntmps38
  go_wp2_with (go_at_call 36; refine (count_ok _ _ _ _ (by omega)).mono ?_; rintro e w1 ⟨rfl, hb⟩)
  go_loopw [15] (fun i wr => ∃ (k : Nat) (q : Option Int), k ≤ n ∧ i = .int .i64 k ∧ Hid (ckLvs none L = ckLvs q (L.drop k)) ∧ Hid ((k = 0 ∧ q = none) ∨ (∃ (j : Nat) (l : Lv), k = j + 1 ∧ L[j]? = some l ∧ q = some l.fr)) ∧ Below w.heap.size w wr) (fun i _ => n - (intOf i).toNat)
  case atStart => exact ⟨0, none, by omega, rfl, rfl, Lib.hid (.inl ⟨rfl, rfl⟩), hb⟩
  case round =>
    clear hb
    obtain ⟨k, q, hk, rfl, hd, hq, hB⟩ := hrel
    by_cases hkn : k < n
    · have hke : k < L.length := by rw [HL.out]; exact hkn
      have hAr := (hA.below hB).more hB.size
      obtain ⟨ad, rfl, _, q0, q1, q2⟩ := lv_at hAr hke
      have hds := ckLvs_step q hke
      have hget := List.getElem?_eq_getElem hke
      generalize L[k] = b at *
      have HG := Lib.hid hget
      have k0 := Bx.new wr 32 #[.int .i64 b.fr, .int .i64 b.d0, .int .i64 b.d1]
      have B0 := hB.alloc hB.size (.cells #[.int .i64 b.fr, .int .i64 b.d0, .int .i64 b.d1] 32)
      clear hget
      by_cases h1 : 0 ≤ b.fr ∧ b.fr ≤ 2880
      case neg =>
        have hd' : Hid (ckLvs none L = 1) := Lib.hid (by rw [hd.out, hds, show ckLv q b = 1 by unfold ckLv; rw [if_pos h1]]; simp)
        clear hds hA hAr hB
        go_wp2_with (first
            | (go_at_call 18; refine (isWithin_no _ _ _ _ h1).mono ?_; rintro e_1 w_1 ⟨rfl, hb_1⟩; have k_1 := k0.call hb_1; have B_1 := B0.trans (hb_1.mono B0.size); obtain ⟨c0_1, c1_1, c2_1, cf_1, cz_1⟩ := k_1.three')
            | fail)
        go_ret
        exact ⟨ret_int (HR0.out.trans hd'.out).symm, B_1⟩
      obtain ⟨R, hR⟩ : ∃ R, ckR b.d0 b.d1 0 10000 = R := ⟨_, rfl⟩
      have HRR := Lib.hid hR
      rcases hq.out with ⟨hk0, rfl⟩ | ⟨j, l, hj, hjl, rfl⟩
      · have hke0 : ((k : Int) == 0) = true := by simp; omega
        have hkz : decide (0 < (k : Int)) = false := by simp; omega
        have hkz2 : decide (0 < k) = false := by simp; omega
        have hkp : ¬ 0 < k := by omega
        have HK0 := Lib.hid hk0
        clear hk0
        by_cases hf : b.fr = 0
        case neg =>
          have hfn : (b.fr != 0) = true := by simpa using hf
          have hd' : Hid (ckLvs none L = 2) := Lib.hid (by rw [hd.out, hds, show ckLv none b = 2 by unfold ckLv; rw [if_neg (fun h => h h1)]; exact if_pos hf]; simp)
          clear hds hA hAr hB hR
          go_wp2_with (first
              | (go_at_call 18; refine (isWithin_yes _ _ _ _ h1).mono ?_; rintro e_1 w_1 ⟨rfl, hb_1⟩; have k_1 := k0.call hb_1; have B_1 := B0.trans (hb_1.mono B0.size); obtain ⟨c0_1, c1_1, c2_1, cf_1, cz_1⟩ := k_1.three')
              | fail)
          go_ret
          exact ⟨ret_int (HR0.out.trans hd'.out).symm, B_1⟩
        have hfn : (b.fr != 0) = false := by simpa using hf
        have hck : ckLv none b = R := by unfold ckLv; rw [if_neg (fun h => h h1)]; exact (if_neg (fun h => h hf)).trans hR
        by_cases hz : R = 0
        · subst hz
          have hd' : Hid (ckLvs none L = ckLvs (some b.fr) (L.drop (k + 1))) := Lib.hid (by rw [hd.out, hds, hck]; simp)
          clear hds hA hAr hB hR hck hf
          go_wp2_with (first
              | (go_at_call 18; refine (isWithin_yes _ _ _ _ h1).mono ?_; rintro e_1 w_1 ⟨rfl, hb_1⟩; have k_1 := k0.call hb_1; have B_1 := B0.trans (hb_1.mono B0.size); obtain ⟨c0_1, c1_1, c2_1, cf_1, cz_1⟩ := k_1.three')
              | fail)
          refine AnyG.startC (by kernel_rfl) ?_
          refine AnyG.takeP (i := 0) (v := ?_) rfl (by kernel_rfl) (fun _ _ _ h => h) rfl ?_ ?_
          rotate_left
          · (intro w'; go_simp; try with_reducible rfl)
          try simp only [Act.put, List.getElem_toArray, List.getElem_cons_succ, List.getElem_cons_zero, List.setIfInBounds_toArray, List.set_cons_zero, List.set_cons_succ]
          refine AnyG.takeP (i := 1) (v := ?_) rfl (by kernel_rfl) (fun _ _ _ h => h) rfl ?_ ?_
          rotate_left
          · (intro w'; go_simp; try with_reducible rfl)
          try simp only [Act.put, List.getElem_toArray, List.getElem_cons_succ, List.getElem_cons_zero, List.setIfInBounds_toArray, List.set_cons_zero, List.set_cons_succ]
          refine AnyG.takeP (i := 2) (v := ?_) rfl (by kernel_rfl) (fun _ _ _ h => h) rfl ?_ ?_
          rotate_left
          · (intro w'; go_simp; try with_reducible rfl)
          try simp only [Act.put, List.getElem_toArray, List.getElem_cons_succ, List.getElem_cons_zero, List.setIfInBounds_toArray, List.set_cons_zero, List.set_cons_succ]
          refine AnyG.enter (fun w' : World => Below w_1.heap.size w_1 w') (fun i => true) ?_
          have hS : (fun w' : World => Below w_1.heap.size w_1 w') (World.drew _) := (Below.refl _ _).drew
          refine AnyG.takeNC (i := 3) rfl (by kernel_rfl) (fun _ _ _ h => h) (by first | (simp [Region.wanted, yielded]; done) | simp [Region.wanted, yielded, undef]) hS ?_
          try simp only [Act.put, List.getElem_toArray, List.getElem_cons_succ, List.getElem_cons_zero, List.setIfInBounds_toArray, List.set_cons_zero, List.set_cons_succ]
          refine AnyG.takeNC (i := 4) rfl (by kernel_rfl) (fun _ _ _ h => h) (by first | (simp [Region.wanted, yielded]; done) | simp [Region.wanted, yielded, undef]) hS ?_
          try simp only [Act.put, List.getElem_toArray, List.getElem_cons_succ, List.getElem_cons_zero, List.setIfInBounds_toArray, List.set_cons_zero, List.set_cons_succ]
          refine AnyG.takeNC (i := 5) rfl (by kernel_rfl) (fun _ _ _ h => h) (by first | (simp [Region.wanted, yielded]; done) | simp [Region.wanted, yielded, undef]) hS ?_
          try simp only [Act.put, List.getElem_toArray, List.getElem_cons_succ, List.getElem_cons_zero, List.setIfInBounds_toArray, List.set_cons_zero, List.set_cons_succ]
          refine AnyG.takeNC (i := 6) rfl (by kernel_rfl) (fun _ _ _ h => h) (by first | (simp [Region.wanted, yielded]; done) | simp [Region.wanted, yielded, undef]) hS ?_
          try simp only [Act.put, List.getElem_toArray, List.getElem_cons_succ, List.getElem_cons_zero, List.setIfInBounds_toArray, List.set_cons_zero, List.set_cons_succ]
          refine AnyG.takeNC (i := 7) rfl (by kernel_rfl) (fun _ _ _ h => h) (by first | (simp [Region.wanted, yielded]; done) | simp [Region.wanted, yielded, undef]) hS ?_
          try simp only [Act.put, List.getElem_toArray, List.getElem_cons_succ, List.getElem_cons_zero, List.setIfInBounds_toArray, List.set_cons_zero, List.set_cons_succ]
          refine AnyG.takeNC (i := 8) rfl (by kernel_rfl) (fun _ _ _ h => h) (by first | (simp [Region.wanted, yielded]; done) | simp [Region.wanted, yielded, undef]) hS ?_
          try simp only [Act.put, List.getElem_toArray, List.getElem_cons_succ, List.getElem_cons_zero, List.setIfInBounds_toArray, List.set_cons_zero, List.set_cons_succ]
          refine AnyG.takeNC (i := 9) rfl (by kernel_rfl) (fun _ _ _ h => h) (by first | (simp [Region.wanted, yielded]; done) | simp [Region.wanted, yielded, undef]) hS ?_
          try simp only [Act.put, List.getElem_toArray, List.getElem_cons_succ, List.getElem_cons_zero, List.setIfInBounds_toArray, List.set_cons_zero, List.set_cons_succ]
          refine AnyG.takeNC (i := 10) rfl (by kernel_rfl) (fun _ _ _ h => h) (by first | (simp [Region.wanted, yielded]; done) | simp [Region.wanted, yielded, undef]) hS ?_
          try simp only [Act.put, List.getElem_toArray, List.getElem_cons_succ, List.getElem_cons_zero, List.setIfInBounds_toArray, List.set_cons_zero, List.set_cons_succ]
          refine AnyG.takeNC (i := 11) rfl (by kernel_rfl) (fun _ _ _ h => h) (by first | (simp [Region.wanted, yielded]; done) | simp [Region.wanted, yielded, undef]) hS ?_
          try simp only [Act.put, List.getElem_toArray, List.getElem_cons_succ, List.getElem_cons_zero, List.setIfInBounds_toArray, List.set_cons_zero, List.set_cons_succ]
          refine AnyG.takeC (i := 12) (v := ?_) rfl (by kernel_rfl) (fun _ _ _ h => h) rfl ?_ hS ?_
          rotate_left
          · (intro w' hSw; (try dsimp only at hSw); go_simp; try with_reducible rfl)
          try simp only [Act.put, List.getElem_toArray, List.getElem_cons_succ, List.getElem_cons_zero, List.setIfInBounds_toArray, List.set_cons_zero, List.set_cons_succ]
          refine AnyG.done (by kernel_rfl) ?_ _
          go_simp
          have k_2 := k_1.drew
          have B_2 := B_1.drew
          obtain ⟨c0_2, c1_2, c2_2, cf_2, cz_2⟩ := k_2.three'
          go_wp2_with (first
              | (go_at_call 37; refine (spanCheck_any _ _ _ _ _).mono ?_; rintro e_1 w_1 ⟨rfl, hb_9⟩; rw [HRR.out]; have k_9 := k_2.call hb_9; have B_9 := B_2.trans (hb_9.mono B_2.size); obtain ⟨c0_1, c1_1, c2_1, cf_1, cz_1⟩ := k_9.three')
              | fail)
          go_roundw
          case rel => exact ⟨k + 1, some b.fr, by omega, by go_num, hd', Lib.hid (.inr ⟨k, b, rfl, HG.out, rfl⟩), B_9⟩
          case measure => simp [intOf]; omega
        · have hz1 : (R != 0) = true := by simpa using hz
          have hd' : Hid (ckLvs none L = R) := Lib.hid (by rw [hd.out, hds, hck, if_pos hz])
          clear hds hA hAr hB hR hck hf
          go_wp2_with (first
              | (go_at_call 18; refine (isWithin_yes _ _ _ _ h1).mono ?_; rintro e_1 w_1 ⟨rfl, hb_1⟩; have k_1 := k0.call hb_1; have B_1 := B0.trans (hb_1.mono B0.size); obtain ⟨c0_1, c1_1, c2_1, cf_1, cz_1⟩ := k_1.three')
              | fail)
          refine AnyG.startC (by kernel_rfl) ?_
          refine AnyG.takeP (i := 0) (v := ?_) rfl (by kernel_rfl) (fun _ _ _ h => h) rfl ?_ ?_
          rotate_left
          · (intro w'; go_simp; try with_reducible rfl)
          try simp only [Act.put, List.getElem_toArray, List.getElem_cons_succ, List.getElem_cons_zero, List.setIfInBounds_toArray, List.set_cons_zero, List.set_cons_succ]
          refine AnyG.takeP (i := 1) (v := ?_) rfl (by kernel_rfl) (fun _ _ _ h => h) rfl ?_ ?_
          rotate_left
          · (intro w'; go_simp; try with_reducible rfl)
          try simp only [Act.put, List.getElem_toArray, List.getElem_cons_succ, List.getElem_cons_zero, List.setIfInBounds_toArray, List.set_cons_zero, List.set_cons_succ]
          refine AnyG.takeP (i := 2) (v := ?_) rfl (by kernel_rfl) (fun _ _ _ h => h) rfl ?_ ?_
          rotate_left
          · (intro w'; go_simp; try with_reducible rfl)
          try simp only [Act.put, List.getElem_toArray, List.getElem_cons_succ, List.getElem_cons_zero, List.setIfInBounds_toArray, List.set_cons_zero, List.set_cons_succ]
          refine AnyG.enter (fun w' : World => Below w_1.heap.size w_1 w') (fun i => true) ?_
          have hS : (fun w' : World => Below w_1.heap.size w_1 w') (World.drew _) := (Below.refl _ _).drew
          refine AnyG.takeNC (i := 3) rfl (by kernel_rfl) (fun _ _ _ h => h) (by first | (simp [Region.wanted, yielded]; done) | simp [Region.wanted, yielded, undef]) hS ?_
          try simp only [Act.put, List.getElem_toArray, List.getElem_cons_succ, List.getElem_cons_zero, List.setIfInBounds_toArray, List.set_cons_zero, List.set_cons_succ]
          refine AnyG.takeNC (i := 4) rfl (by kernel_rfl) (fun _ _ _ h => h) (by first | (simp [Region.wanted, yielded]; done) | simp [Region.wanted, yielded, undef]) hS ?_
          try simp only [Act.put, List.getElem_toArray, List.getElem_cons_succ, List.getElem_cons_zero, List.setIfInBounds_toArray, List.set_cons_zero, List.set_cons_succ]
          refine AnyG.takeNC (i := 5) rfl (by kernel_rfl) (fun _ _ _ h => h) (by first | (simp [Region.wanted, yielded]; done) | simp [Region.wanted, yielded, undef]) hS ?_
          try simp only [Act.put, List.getElem_toArray, List.getElem_cons_succ, List.getElem_cons_zero, List.setIfInBounds_toArray, List.set_cons_zero, List.set_cons_succ]
          refine AnyG.takeNC (i := 6) rfl (by kernel_rfl) (fun _ _ _ h => h) (by first | (simp [Region.wanted, yielded]; done) | simp [Region.wanted, yielded, undef]) hS ?_
          try simp only [Act.put, List.getElem_toArray, List.getElem_cons_succ, List.getElem_cons_zero, List.setIfInBounds_toArray, List.set_cons_zero, List.set_cons_succ]
          refine AnyG.takeNC (i := 7) rfl (by kernel_rfl) (fun _ _ _ h => h) (by first | (simp [Region.wanted, yielded]; done) | simp [Region.wanted, yielded, undef]) hS ?_
          try simp only [Act.put, List.getElem_toArray, List.getElem_cons_succ, List.getElem_cons_zero, List.setIfInBounds_toArray, List.set_cons_zero, List.set_cons_succ]
          refine AnyG.takeNC (i := 8) rfl (by kernel_rfl) (fun _ _ _ h => h) (by first | (simp [Region.wanted, yielded]; done) | simp [Region.wanted, yielded, undef]) hS ?_
          try simp only [Act.put, List.getElem_toArray, List.getElem_cons_succ, List.getElem_cons_zero, List.setIfInBounds_toArray, List.set_cons_zero, List.set_cons_succ]
          refine AnyG.takeNC (i := 9) rfl (by kernel_rfl) (fun _ _ _ h => h) (by first | (simp [Region.wanted, yielded]; done) | simp [Region.wanted, yielded, undef]) hS ?_
          try simp only [Act.put, List.getElem_toArray, List.getElem_cons_succ, List.getElem_cons_zero, List.setIfInBounds_toArray, List.set_cons_zero, List.set_cons_succ]
          refine AnyG.takeNC (i := 10) rfl (by kernel_rfl) (fun _ _ _ h => h) (by first | (simp [Region.wanted, yielded]; done) | simp [Region.wanted, yielded, undef]) hS ?_
          try simp only [Act.put, List.getElem_toArray, List.getElem_cons_succ, List.getElem_cons_zero, List.setIfInBounds_toArray, List.set_cons_zero, List.set_cons_succ]
          refine AnyG.takeNC (i := 11) rfl (by kernel_rfl) (fun _ _ _ h => h) (by first | (simp [Region.wanted, yielded]; done) | simp [Region.wanted, yielded, undef]) hS ?_
          try simp only [Act.put, List.getElem_toArray, List.getElem_cons_succ, List.getElem_cons_zero, List.setIfInBounds_toArray, List.set_cons_zero, List.set_cons_succ]
          refine AnyG.takeC (i := 12) (v := ?_) rfl (by kernel_rfl) (fun _ _ _ h => h) rfl ?_ hS ?_
          rotate_left
          · (intro w' hSw; (try dsimp only at hSw); go_simp; try with_reducible rfl)
          try simp only [Act.put, List.getElem_toArray, List.getElem_cons_succ, List.getElem_cons_zero, List.setIfInBounds_toArray, List.set_cons_zero, List.set_cons_succ]
          refine AnyG.done (by kernel_rfl) ?_ _
          go_simp
          have k_2 := k_1.drew
          have B_2 := B_1.drew
          obtain ⟨c0_2, c1_2, c2_2, cf_2, cz_2⟩ := k_2.three'
          go_wp2_with (first
              | (go_at_call 37; refine (spanCheck_any _ _ _ _ _).mono ?_; rintro e_1 w_1 ⟨rfl, hb_9⟩; rw [HRR.out]; have k_9 := k_2.call hb_9; have B_9 := B_2.trans (hb_9.mono B_2.size); obtain ⟨c0_1, c1_1, c2_1, cf_1, cz_1⟩ := k_9.three')
              | fail)
          go_ret
          exact ⟨ret_int (HR0.out.trans hd'.out).symm, B_9⟩
      · have hjk : j < L.length := (List.getElem?_eq_some_iff.1 hjl).1
        obtain ⟨ad', e, _, p0, _, _⟩ := lv_at hAr hjk
        obtain rfl := Option.some.inj e
        rw [(List.getElem?_eq_some_iff.1 hjl).2] at p0
        have hkw : IntKind.i64.wrap ((k : Int) - 1) = (j : Int) := by rw [hj]; exact (IntWalk.i64_in _ (by omega)).trans (by omega)
        have hj0 : (0 : Int) < (k : Int) := by omega
        have hjn : j < n := by omega
        have hkp : 0 < k := by omega
        have hkz : decide (0 < (k : Int)) = true := by simpa using hj0
        have hkz2 : decide (0 < k) = true := by simpa using hkp
        have hke0 : ((k : Int) == 0) = false := by simp; omega
        have p0 := cellA (o := .cells #[.int .i64 b.fr, .int .i64 b.d0, .int .i64 b.d1] 32) p0
        have HJ := Lib.hid hj
        clear hj
        by_cases hf : b.fr ≤ l.fr
        case pos =>
          have hd' : Hid (ckLvs none L = 5) := Lib.hid (by rw [hd.out, hds, show ckLv (some l.fr) b = 5 by unfold ckLv; rw [if_neg (fun h => h h1)]; exact if_pos hf]; simp)
          clear hds hA hAr hB hR hjl
          go_wp2_with (first
              | (go_at_call 18; refine (isWithin_yes _ _ _ _ h1).mono ?_; rintro e_1 w_1 ⟨rfl, hb_1⟩; have k_1 := k0.call hb_1; have B_1 := B0.trans (hb_1.mono B0.size); obtain ⟨c0_1, c1_1, c2_1, cf_1, cz_1⟩ := k_1.three')
              | fail)
          have p0 := cellC hb_1 p0
          refine AnyG.startC (by kernel_rfl) ?_
          refine AnyG.takeP (i := 0) (v := ?_) rfl (by kernel_rfl) (fun _ _ _ h => h) rfl ?_ ?_
          rotate_left
          · (intro w'; go_simp; try with_reducible rfl)
          try simp only [Act.put, List.getElem_toArray, List.getElem_cons_succ, List.getElem_cons_zero, List.setIfInBounds_toArray, List.set_cons_zero, List.set_cons_succ]
          refine AnyG.takeP (i := 1) (v := ?_) rfl (by kernel_rfl) (fun _ _ _ h => h) rfl ?_ ?_
          rotate_left
          · (intro w'; go_simp; try with_reducible rfl)
          try simp only [Act.put, List.getElem_toArray, List.getElem_cons_succ, List.getElem_cons_zero, List.setIfInBounds_toArray, List.set_cons_zero, List.set_cons_succ]
          refine AnyG.takeP (i := 2) (v := ?_) rfl (by kernel_rfl) (fun _ _ _ h => h) rfl ?_ ?_
          rotate_left
          · (intro w'; go_simp; try with_reducible rfl)
          try simp only [Act.put, List.getElem_toArray, List.getElem_cons_succ, List.getElem_cons_zero, List.setIfInBounds_toArray, List.set_cons_zero, List.set_cons_succ]
          refine AnyG.enter (fun w' : World => Below w_1.heap.size w_1 w') (fun i => true) ?_
          have hS : (fun w' : World => Below w_1.heap.size w_1 w') (World.drew _) := (Below.refl _ _).drew
          refine AnyG.takeGC (i := 3) (v := ?_) rfl (by kernel_rfl) (fun _ _ _ h => h) (by first | (simp [Region.wanted, yielded]; done) | simp [Region.wanted, yielded, undef]) ?_ hS ?_
          rotate_left
          · (intro w' hSw; (try dsimp only at hSw); go_simp; try with_reducible rfl)
          try simp only [Act.put, List.getElem_toArray, List.getElem_cons_succ, List.getElem_cons_zero, List.setIfInBounds_toArray, List.set_cons_zero, List.set_cons_succ]
          refine AnyG.takeGC (i := 4) (v := ?_) rfl (by kernel_rfl) (fun _ _ _ h => h) (by first | (simp [Region.wanted, yielded]; done) | simp [Region.wanted, yielded, undef]) ?_ hS ?_
          rotate_left
          · (intro w' hSw; (try dsimp only at hSw); obtain ⟨x0, x1, x2, xf, xz⟩ := (k_1.call hSw).three'; go_simp; try with_reducible rfl)
          try simp only [Act.put, List.getElem_toArray, List.getElem_cons_succ, List.getElem_cons_zero, List.setIfInBounds_toArray, List.set_cons_zero, List.set_cons_succ]
          refine AnyG.takeGC (i := 5) (v := ?_) rfl (by kernel_rfl) (fun _ _ _ h => h) (by first | (simp [Region.wanted, yielded]; done) | simp [Region.wanted, yielded, undef]) ?_ hS ?_
          rotate_left
          · (intro w' hSw; (try dsimp only at hSw); go_simp; try with_reducible rfl)
          try simp only [Act.put, List.getElem_toArray, List.getElem_cons_succ, List.getElem_cons_zero, List.setIfInBounds_toArray, List.set_cons_zero, List.set_cons_succ]
          refine AnyG.takeGC (i := 6) (v := ?_) rfl (by kernel_rfl) (fun _ _ _ h => h) (by first | (simp [Region.wanted, yielded]; done) | simp [Region.wanted, yielded, undef]) ?_ hS ?_
          rotate_left
          · (intro w' hSw; (try dsimp only at hSw); go_simp; try with_reducible rfl)
          try simp only [Act.put, List.getElem_toArray, List.getElem_cons_succ, List.getElem_cons_zero, List.setIfInBounds_toArray, List.set_cons_zero, List.set_cons_succ]
          refine AnyG.takeGC (i := 7) (v := ?_) rfl (by kernel_rfl) (fun _ _ _ h => h) (by first | (simp [Region.wanted, yielded]; done) | simp [Region.wanted, yielded, undef]) ?_ hS ?_
          rotate_left
          · (intro w' hSw; (try dsimp only at hSw); go_simp; try with_reducible rfl)
          try simp only [Act.put, List.getElem_toArray, List.getElem_cons_succ, List.getElem_cons_zero, List.setIfInBounds_toArray, List.set_cons_zero, List.set_cons_succ]
          refine AnyG.takeGC (i := 8) (v := ?_) rfl (by kernel_rfl) (fun _ _ _ h => h) (by first | (simp [Region.wanted, yielded]; done) | simp [Region.wanted, yielded, undef]) ?_ hS ?_
          rotate_left
          · (intro w' hSw; (try dsimp only at hSw); go_simp; try with_reducible rfl)
          try simp only [Act.put, List.getElem_toArray, List.getElem_cons_succ, List.getElem_cons_zero, List.setIfInBounds_toArray, List.set_cons_zero, List.set_cons_succ]
          refine AnyG.takeGC (i := 9) (v := ?_) rfl (by kernel_rfl) (fun _ _ _ h => h) (by first | (simp [Region.wanted, yielded]; done) | simp [Region.wanted, yielded, undef]) ?_ hS ?_
          rotate_left
          · (intro w' hSw; (try dsimp only at hSw); go_simp; try with_reducible rfl)
          try simp only [Act.put, List.getElem_toArray, List.getElem_cons_succ, List.getElem_cons_zero, List.setIfInBounds_toArray, List.set_cons_zero, List.set_cons_succ]
          refine AnyG.takeGC (i := 10) (v := ?_) rfl (by kernel_rfl) (fun _ _ _ h => h) (by first | (simp [Region.wanted, yielded]; done) | simp [Region.wanted, yielded, undef]) ?_ hS ?_
          rotate_left
          · (intro w' hSw; (try dsimp only at hSw); have p0 := cellC hSw p0; go_simp; try with_reducible rfl)
          try simp only [Act.put, List.getElem_toArray, List.getElem_cons_succ, List.getElem_cons_zero, List.setIfInBounds_toArray, List.set_cons_zero, List.set_cons_succ]
          refine AnyG.takeGC (i := 11) (v := ?_) rfl (by kernel_rfl) (fun _ _ _ h => h) (by first | (simp [Region.wanted, yielded]; done) | simp [Region.wanted, yielded, undef]) ?_ hS ?_
          rotate_left
          · (intro w' hSw; (try dsimp only at hSw); go_simp; try with_reducible rfl)
          try simp only [Act.put, List.getElem_toArray, List.getElem_cons_succ, List.getElem_cons_zero, List.setIfInBounds_toArray, List.set_cons_zero, List.set_cons_succ]
          refine AnyG.takeC (i := 12) (v := ?_) rfl (by kernel_rfl) (fun _ _ _ h => h) rfl ?_ hS ?_
          rotate_left
          · (intro w' hSw; (try dsimp only at hSw); go_simp; try with_reducible rfl)
          try simp only [Act.put, List.getElem_toArray, List.getElem_cons_succ, List.getElem_cons_zero, List.setIfInBounds_toArray, List.set_cons_zero, List.set_cons_succ]
          refine AnyG.done (by kernel_rfl) ?_ _
          go_simp
          go_wp2_with fail
          go_ret
          exact ⟨ret_int (HR0.out.trans hd'.out).symm, B_1.drew⟩
        have hck : ckLv (some l.fr) b = R := by unfold ckLv; rw [if_neg (fun h => h h1)]; exact (if_neg hf).trans hR
        by_cases hz : R = 0
        · subst hz
          have hd' : Hid (ckLvs none L = ckLvs (some b.fr) (L.drop (k + 1))) := Lib.hid (by rw [hd.out, hds, hck]; simp)
          clear hds hA hAr hB hR hck hjl
          go_wp2_with (first
              | (go_at_call 18; refine (isWithin_yes _ _ _ _ h1).mono ?_; rintro e_1 w_1 ⟨rfl, hb_1⟩; have k_1 := k0.call hb_1; have B_1 := B0.trans (hb_1.mono B0.size); obtain ⟨c0_1, c1_1, c2_1, cf_1, cz_1⟩ := k_1.three')
              | fail)
          have p0 := cellC hb_1 p0
          refine AnyG.startC (by kernel_rfl) ?_
          refine AnyG.takeP (i := 0) (v := ?_) rfl (by kernel_rfl) (fun _ _ _ h => h) rfl ?_ ?_
          rotate_left
          · (intro w'; go_simp; try with_reducible rfl)
          try simp only [Act.put, List.getElem_toArray, List.getElem_cons_succ, List.getElem_cons_zero, List.setIfInBounds_toArray, List.set_cons_zero, List.set_cons_succ]
          refine AnyG.takeP (i := 1) (v := ?_) rfl (by kernel_rfl) (fun _ _ _ h => h) rfl ?_ ?_
          rotate_left
          · (intro w'; go_simp; try with_reducible rfl)
          try simp only [Act.put, List.getElem_toArray, List.getElem_cons_succ, List.getElem_cons_zero, List.setIfInBounds_toArray, List.set_cons_zero, List.set_cons_succ]
          refine AnyG.takeP (i := 2) (v := ?_) rfl (by kernel_rfl) (fun _ _ _ h => h) rfl ?_ ?_
          rotate_left
          · (intro w'; go_simp; try with_reducible rfl)
          try simp only [Act.put, List.getElem_toArray, List.getElem_cons_succ, List.getElem_cons_zero, List.setIfInBounds_toArray, List.set_cons_zero, List.set_cons_succ]
          refine AnyG.enter (fun w' : World => Below w_1.heap.size w_1 w') (fun i => true) ?_
          have hS : (fun w' : World => Below w_1.heap.size w_1 w') (World.drew _) := (Below.refl _ _).drew
          refine AnyG.takeGC (i := 3) (v := ?_) rfl (by kernel_rfl) (fun _ _ _ h => h) (by first | (simp [Region.wanted, yielded]; done) | simp [Region.wanted, yielded, undef]) ?_ hS ?_
          rotate_left
          · (intro w' hSw; (try dsimp only at hSw); go_simp; try with_reducible rfl)
          try simp only [Act.put, List.getElem_toArray, List.getElem_cons_succ, List.getElem_cons_zero, List.setIfInBounds_toArray, List.set_cons_zero, List.set_cons_succ]
          refine AnyG.takeGC (i := 4) (v := ?_) rfl (by kernel_rfl) (fun _ _ _ h => h) (by first | (simp [Region.wanted, yielded]; done) | simp [Region.wanted, yielded, undef]) ?_ hS ?_
          rotate_left
          · (intro w' hSw; (try dsimp only at hSw); obtain ⟨x0, x1, x2, xf, xz⟩ := (k_1.call hSw).three'; go_simp; try with_reducible rfl)
          try simp only [Act.put, List.getElem_toArray, List.getElem_cons_succ, List.getElem_cons_zero, List.setIfInBounds_toArray, List.set_cons_zero, List.set_cons_succ]
          refine AnyG.takeGC (i := 5) (v := ?_) rfl (by kernel_rfl) (fun _ _ _ h => h) (by first | (simp [Region.wanted, yielded]; done) | simp [Region.wanted, yielded, undef]) ?_ hS ?_
          rotate_left
          · (intro w' hSw; (try dsimp only at hSw); go_simp; try with_reducible rfl)
          try simp only [Act.put, List.getElem_toArray, List.getElem_cons_succ, List.getElem_cons_zero, List.setIfInBounds_toArray, List.set_cons_zero, List.set_cons_succ]
          refine AnyG.takeGC (i := 6) (v := ?_) rfl (by kernel_rfl) (fun _ _ _ h => h) (by first | (simp [Region.wanted, yielded]; done) | simp [Region.wanted, yielded, undef]) ?_ hS ?_
          rotate_left
          · (intro w' hSw; (try dsimp only at hSw); go_simp; try with_reducible rfl)
          try simp only [Act.put, List.getElem_toArray, List.getElem_cons_succ, List.getElem_cons_zero, List.setIfInBounds_toArray, List.set_cons_zero, List.set_cons_succ]
          refine AnyG.takeGC (i := 7) (v := ?_) rfl (by kernel_rfl) (fun _ _ _ h => h) (by first | (simp [Region.wanted, yielded]; done) | simp [Region.wanted, yielded, undef]) ?_ hS ?_
          rotate_left
          · (intro w' hSw; (try dsimp only at hSw); go_simp; try with_reducible rfl)
          try simp only [Act.put, List.getElem_toArray, List.getElem_cons_succ, List.getElem_cons_zero, List.setIfInBounds_toArray, List.set_cons_zero, List.set_cons_succ]
          refine AnyG.takeGC (i := 8) (v := ?_) rfl (by kernel_rfl) (fun _ _ _ h => h) (by first | (simp [Region.wanted, yielded]; done) | simp [Region.wanted, yielded, undef]) ?_ hS ?_
          rotate_left
          · (intro w' hSw; (try dsimp only at hSw); go_simp; try with_reducible rfl)
          try simp only [Act.put, List.getElem_toArray, List.getElem_cons_succ, List.getElem_cons_zero, List.setIfInBounds_toArray, List.set_cons_zero, List.set_cons_succ]
          refine AnyG.takeGC (i := 9) (v := ?_) rfl (by kernel_rfl) (fun _ _ _ h => h) (by first | (simp [Region.wanted, yielded]; done) | simp [Region.wanted, yielded, undef]) ?_ hS ?_
          rotate_left
          · (intro w' hSw; (try dsimp only at hSw); go_simp; try with_reducible rfl)
          try simp only [Act.put, List.getElem_toArray, List.getElem_cons_succ, List.getElem_cons_zero, List.setIfInBounds_toArray, List.set_cons_zero, List.set_cons_succ]
          refine AnyG.takeGC (i := 10) (v := ?_) rfl (by kernel_rfl) (fun _ _ _ h => h) (by first | (simp [Region.wanted, yielded]; done) | simp [Region.wanted, yielded, undef]) ?_ hS ?_
          rotate_left
          · (intro w' hSw; (try dsimp only at hSw); have p0 := cellC hSw p0; go_simp; try with_reducible rfl)
          try simp only [Act.put, List.getElem_toArray, List.getElem_cons_succ, List.getElem_cons_zero, List.setIfInBounds_toArray, List.set_cons_zero, List.set_cons_succ]
          refine AnyG.takeGC (i := 11) (v := ?_) rfl (by kernel_rfl) (fun _ _ _ h => h) (by first | (simp [Region.wanted, yielded]; done) | simp [Region.wanted, yielded, undef]) ?_ hS ?_
          rotate_left
          · (intro w' hSw; (try dsimp only at hSw); go_simp; try with_reducible rfl)
          try simp only [Act.put, List.getElem_toArray, List.getElem_cons_succ, List.getElem_cons_zero, List.setIfInBounds_toArray, List.set_cons_zero, List.set_cons_succ]
          refine AnyG.takeC (i := 12) (v := ?_) rfl (by kernel_rfl) (fun _ _ _ h => h) rfl ?_ hS ?_
          rotate_left
          · (intro w' hSw; (try dsimp only at hSw); go_simp; try with_reducible rfl)
          try simp only [Act.put, List.getElem_toArray, List.getElem_cons_succ, List.getElem_cons_zero, List.setIfInBounds_toArray, List.set_cons_zero, List.set_cons_succ]
          refine AnyG.done (by kernel_rfl) ?_ _
          go_simp
          have k_2 := k_1.drew
          have B_2 := B_1.drew
          obtain ⟨c0_2, c1_2, c2_2, cf_2, cz_2⟩ := k_2.three'
          go_wp2_with (first
              | (go_at_call 37; refine (spanCheck_any _ _ _ _ _).mono ?_; rintro e_1 w_1 ⟨rfl, hb_9⟩; rw [HRR.out]; have k_9 := k_2.call hb_9; have B_9 := B_2.trans (hb_9.mono B_2.size); obtain ⟨c0_1, c1_1, c2_1, cf_1, cz_1⟩ := k_9.three')
              | fail)
          go_roundw
          case rel => exact ⟨k + 1, some b.fr, by omega, by go_num, hd', Lib.hid (.inr ⟨k, b, rfl, HG.out, rfl⟩), B_9⟩
          case measure => simp [intOf]; omega
        · have hz1 : (R != 0) = true := by simpa using hz
          have hd' : Hid (ckLvs none L = R) := Lib.hid (by rw [hd.out, hds, hck, if_pos hz])
          clear hds hA hAr hB hR hck hjl
          go_wp2_with (first
              | (go_at_call 18; refine (isWithin_yes _ _ _ _ h1).mono ?_; rintro e_1 w_1 ⟨rfl, hb_1⟩; have k_1 := k0.call hb_1; have B_1 := B0.trans (hb_1.mono B0.size); obtain ⟨c0_1, c1_1, c2_1, cf_1, cz_1⟩ := k_1.three')
              | fail)
          have p0 := cellC hb_1 p0
          refine AnyG.startC (by kernel_rfl) ?_
          refine AnyG.takeP (i := 0) (v := ?_) rfl (by kernel_rfl) (fun _ _ _ h => h) rfl ?_ ?_
          rotate_left
          · (intro w'; go_simp; try with_reducible rfl)
          try simp only [Act.put, List.getElem_toArray, List.getElem_cons_succ, List.getElem_cons_zero, List.setIfInBounds_toArray, List.set_cons_zero, List.set_cons_succ]
          refine AnyG.takeP (i := 1) (v := ?_) rfl (by kernel_rfl) (fun _ _ _ h => h) rfl ?_ ?_
          rotate_left
          · (intro w'; go_simp; try with_reducible rfl)
          try simp only [Act.put, List.getElem_toArray, List.getElem_cons_succ, List.getElem_cons_zero, List.setIfInBounds_toArray, List.set_cons_zero, List.set_cons_succ]
          refine AnyG.takeP (i := 2) (v := ?_) rfl (by kernel_rfl) (fun _ _ _ h => h) rfl ?_ ?_
          rotate_left
          · (intro w'; go_simp; try with_reducible rfl)
          try simp only [Act.put, List.getElem_toArray, List.getElem_cons_succ, List.getElem_cons_zero, List.setIfInBounds_toArray, List.set_cons_zero, List.set_cons_succ]
          refine AnyG.enter (fun w' : World => Below w_1.heap.size w_1 w') (fun i => true) ?_
          have hS : (fun w' : World => Below w_1.heap.size w_1 w') (World.drew _) := (Below.refl _ _).drew
          refine AnyG.takeGC (i := 3) (v := ?_) rfl (by kernel_rfl) (fun _ _ _ h => h) (by first | (simp [Region.wanted, yielded]; done) | simp [Region.wanted, yielded, undef]) ?_ hS ?_
          rotate_left
          · (intro w' hSw; (try dsimp only at hSw); go_simp; try with_reducible rfl)
          try simp only [Act.put, List.getElem_toArray, List.getElem_cons_succ, List.getElem_cons_zero, List.setIfInBounds_toArray, List.set_cons_zero, List.set_cons_succ]
          refine AnyG.takeGC (i := 4) (v := ?_) rfl (by kernel_rfl) (fun _ _ _ h => h) (by first | (simp [Region.wanted, yielded]; done) | simp [Region.wanted, yielded, undef]) ?_ hS ?_
          rotate_left
          · (intro w' hSw; (try dsimp only at hSw); obtain ⟨x0, x1, x2, xf, xz⟩ := (k_1.call hSw).three'; go_simp; try with_reducible rfl)
          try simp only [Act.put, List.getElem_toArray, List.getElem_cons_succ, List.getElem_cons_zero, List.setIfInBounds_toArray, List.set_cons_zero, List.set_cons_succ]
          refine AnyG.takeGC (i := 5) (v := ?_) rfl (by kernel_rfl) (fun _ _ _ h => h) (by first | (simp [Region.wanted, yielded]; done) | simp [Region.wanted, yielded, undef]) ?_ hS ?_
          rotate_left
          · (intro w' hSw; (try dsimp only at hSw); go_simp; try with_reducible rfl)
          try simp only [Act.put, List.getElem_toArray, List.getElem_cons_succ, List.getElem_cons_zero, List.setIfInBounds_toArray, List.set_cons_zero, List.set_cons_succ]
          refine AnyG.takeGC (i := 6) (v := ?_) rfl (by kernel_rfl) (fun _ _ _ h => h) (by first | (simp [Region.wanted, yielded]; done) | simp [Region.wanted, yielded, undef]) ?_ hS ?_
          rotate_left
          · (intro w' hSw; (try dsimp only at hSw); go_simp; try with_reducible rfl)
          try simp only [Act.put, List.getElem_toArray, List.getElem_cons_succ, List.getElem_cons_zero, List.setIfInBounds_toArray, List.set_cons_zero, List.set_cons_succ]
          refine AnyG.takeGC (i := 7) (v := ?_) rfl (by kernel_rfl) (fun _ _ _ h => h) (by first | (simp [Region.wanted, yielded]; done) | simp [Region.wanted, yielded, undef]) ?_ hS ?_
          rotate_left
          · (intro w' hSw; (try dsimp only at hSw); go_simp; try with_reducible rfl)
          try simp only [Act.put, List.getElem_toArray, List.getElem_cons_succ, List.getElem_cons_zero, List.setIfInBounds_toArray, List.set_cons_zero, List.set_cons_succ]
          refine AnyG.takeGC (i := 8) (v := ?_) rfl (by kernel_rfl) (fun _ _ _ h => h) (by first | (simp [Region.wanted, yielded]; done) | simp [Region.wanted, yielded, undef]) ?_ hS ?_
          rotate_left
          · (intro w' hSw; (try dsimp only at hSw); go_simp; try with_reducible rfl)
          try simp only [Act.put, List.getElem_toArray, List.getElem_cons_succ, List.getElem_cons_zero, List.setIfInBounds_toArray, List.set_cons_zero, List.set_cons_succ]
          refine AnyG.takeGC (i := 9) (v := ?_) rfl (by kernel_rfl) (fun _ _ _ h => h) (by first | (simp [Region.wanted, yielded]; done) | simp [Region.wanted, yielded, undef]) ?_ hS ?_
          rotate_left
          · (intro w' hSw; (try dsimp only at hSw); go_simp; try with_reducible rfl)
          try simp only [Act.put, List.getElem_toArray, List.getElem_cons_succ, List.getElem_cons_zero, List.setIfInBounds_toArray, List.set_cons_zero, List.set_cons_succ]
          refine AnyG.takeGC (i := 10) (v := ?_) rfl (by kernel_rfl) (fun _ _ _ h => h) (by first | (simp [Region.wanted, yielded]; done) | simp [Region.wanted, yielded, undef]) ?_ hS ?_
          rotate_left
          · (intro w' hSw; (try dsimp only at hSw); have p0 := cellC hSw p0; go_simp; try with_reducible rfl)
          try simp only [Act.put, List.getElem_toArray, List.getElem_cons_succ, List.getElem_cons_zero, List.setIfInBounds_toArray, List.set_cons_zero, List.set_cons_succ]
          refine AnyG.takeGC (i := 11) (v := ?_) rfl (by kernel_rfl) (fun _ _ _ h => h) (by first | (simp [Region.wanted, yielded]; done) | simp [Region.wanted, yielded, undef]) ?_ hS ?_
          rotate_left
          · (intro w' hSw; (try dsimp only at hSw); go_simp; try with_reducible rfl)
          try simp only [Act.put, List.getElem_toArray, List.getElem_cons_succ, List.getElem_cons_zero, List.setIfInBounds_toArray, List.set_cons_zero, List.set_cons_succ]
          refine AnyG.takeC (i := 12) (v := ?_) rfl (by kernel_rfl) (fun _ _ _ h => h) rfl ?_ hS ?_
          rotate_left
          · (intro w' hSw; (try dsimp only at hSw); go_simp; try with_reducible rfl)
          try simp only [Act.put, List.getElem_toArray, List.getElem_cons_succ, List.getElem_cons_zero, List.setIfInBounds_toArray, List.set_cons_zero, List.set_cons_succ]
          refine AnyG.done (by kernel_rfl) ?_ _
          go_simp
          have k_2 := k_1.drew
          have B_2 := B_1.drew
          obtain ⟨c0_2, c1_2, c2_2, cf_2, cz_2⟩ := k_2.three'
          go_wp2_with (first
              | (go_at_call 37; refine (spanCheck_any _ _ _ _ _).mono ?_; rintro e_1 w_1 ⟨rfl, hb_9⟩; rw [HRR.out]; have k_9 := k_2.call hb_9; have B_9 := B_2.trans (hb_9.mono B_2.size); obtain ⟨c0_1, c1_1, c2_1, cf_1, cz_1⟩ := k_9.three')
              | fail)
          go_ret
          exact ⟨ret_int (HR0.out.trans hd'.out).symm, B_9⟩
    · have hd' : Hid (ckLvs none L = 0) := by unfold Hid; rw [hd.out, List.drop_eq_nil_of_le (by rw [HL.out]; omega)]; cases q <;> rfl
      go_wp2_with fail
      go_ret
      exact ⟨ret_int (HR0.out.trans hd'.out).symm, hB⟩
set_option maxHeartbeats 800000 in
theorem checkSills_any (A : Option Addr) (n c : Nat) (L : List Si) (w : World) (hn : n ≤ 9223372036854775807) (hl : L.length = n) (hA : SisAt w w.heap.size A L) (hF : ∀ s ∈ L, s.lv.length ≤ 9223372036854775807) :
    Calls Tryd.prog 19 #[.slice A n c] w fun e w' => e = .returned (.int .i64 (ckSs L)) ∧ Below w.heap.size w w' := by
  have HL := Lib.hid hl
  have HF := Lib.hid hF
  clear hl hF
  by_cases h6 : 4 < n
  · have HR : Hid (ckSs L = 6) := Lib.hid (by unfold ckSs; rw [if_pos (by rw [HL.out]; exact h6)])
    go_enter Tryd.func19, Tryd.ntmps19
    go_wp2_with (go_at_call 36; refine (count_many _ _ _ _ (by omega)).mono ?_; rintro e w1 ⟨rfl, hb⟩)
    go_ret
    exact ⟨ret_int HR.out.symm, hb⟩
  have HR0 : Hid (ckSs L = ckSis L) := Lib.hid (by unfold ckSs; rw [if_neg (by rw [HL.out]; omega)])
  go_enter Tryd.func19, Tryd.ntmps19
  go_wp2_with (go_at_call 36; refine (count_ok _ _ _ _ (by omega)).mono ?_; rintro e w1 ⟨rfl, hb⟩)
  go_loopw [16] (fun i wr => ∃ k : Nat, k ≤ n ∧ i = .int .i64 k ∧ Hid (ckSis L = ckSis (L.drop k)) ∧ Below w.heap.size w wr) (fun i _ => n - (intOf i).toNat)
  case atStart => exact ⟨0, by omega, rfl, rfl, hb⟩
  case round =>
    clear hb
    obtain ⟨k, hk, rfl, hd, hB⟩ := hrel
    by_cases hkn : k < n
    · have hke : k < L.length := by rw [HL.out]; exact hkn
      obtain ⟨ad, G, gc, rfl, _, q0, q1, q2, -, hG⟩ := ((hA.below hB).more hB.size).at_ hke
      have hds := ckSis_step hke
      have hln := HF.out _ (List.getElem_mem hke)
      generalize L[k] = b at *
      obtain ⟨gn, hgn⟩ : ∃ gn, b.lv.length = gn := ⟨_, rfl⟩
      rw [hgn] at q2 hln
      have HN := Lib.hid hgn
      have k0 := Bx.new wr 35 #[.int .i64 b.t0, .int .i64 b.t1, .slice G gn gc]
      have B0 := hB.alloc hB.size (.cells #[.int .i64 b.t0, .int .i64 b.t1, .slice G gn gc] 35)
      have hB0 := (Below.refl wr.heap.size wr).alloc (Nat.le_refl _) (.cells #[.int .i64 b.t0, .int .i64 b.t1, .slice G gn gc] 35)
      replace hG := (hG.below hB0).more hB0.size
      clear hA hB hgn hB0
      obtain ⟨R, hR⟩ : ∃ R, ckR b.t0 b.t1 0 2880 = R := ⟨_, rfl⟩
      have HRR := Lib.hid hR
      obtain ⟨E, hE⟩ : ∃ E, ckLl b.lv = E := ⟨_, rfl⟩
      have HEE := Lib.hid hE
      by_cases hz : R = 0
      · subst hz
        have hck : ckSi b = E := by unfold ckSi; rw [hR, if_neg (by simp), hE]
        by_cases hz2 : E = 0
        · subst hz2
          have hd' : Hid (ckSis L = ckSis (L.drop (k + 1))) := Lib.hid (by rw [hd.out, hds, hck]; simp)
          clear hds hR hE hck
          go_wp2_with (first
              | (go_at_call 38; have _t := hb_1; clear _t; refine (checkLevels_any _ _ _ _ _ hln HN.out (hG.call hb_1)).mono ?_; rintro e_2 w_2 ⟨rfl, hb_2⟩; rw [HEE.out]; have k_2 := k_1.call hb_2; have B_2 := B_1.trans (hb_2.mono B_1.size); obtain ⟨c0_2, c1_2, c2_2, cf_2, cz_2⟩ := k_2.three')
              | (go_at_call 37; refine (spanCheck_any _ _ _ _ _).mono ?_; rintro e_1 w_1 ⟨rfl, hb_1⟩; rw [HRR.out]; have k_1 := k0.call hb_1; have B_1 := B0.trans (hb_1.mono B0.size); obtain ⟨c0_1, c1_1, c2_1, cf_1, cz_1⟩ := k_1.three')
              | fail)
          go_roundw
          case rel => exact ⟨k + 1, by omega, by go_num, hd', B_2⟩
          case measure => simp [intOf]; omega
        · have hz1 : (E != 0) = true := by simpa using hz2
          have hd' : Hid (ckSis L = E) := Lib.hid (by rw [hd.out, hds, hck, if_pos hz2])
          clear hds hR hE hck
          go_wp2_with (first
              | (go_at_call 38; have _t := hb_1; clear _t; refine (checkLevels_any _ _ _ _ _ hln HN.out (hG.call hb_1)).mono ?_; rintro e_2 w_2 ⟨rfl, hb_2⟩; rw [HEE.out]; have k_2 := k_1.call hb_2; have B_2 := B_1.trans (hb_2.mono B_1.size); obtain ⟨c0_2, c1_2, c2_2, cf_2, cz_2⟩ := k_2.three')
              | (go_at_call 37; refine (spanCheck_any _ _ _ _ _).mono ?_; rintro e_1 w_1 ⟨rfl, hb_1⟩; rw [HRR.out]; have k_1 := k0.call hb_1; have B_1 := B0.trans (hb_1.mono B0.size); obtain ⟨c0_1, c1_1, c2_1, cf_1, cz_1⟩ := k_1.three')
              | fail)
          go_ret
          exact ⟨ret_int (HR0.out.trans hd'.out).symm, B_2⟩
      · have hz1 : (R != 0) = true := by simpa using hz
        have hd' : Hid (ckSis L = R) := Lib.hid (by rw [hd.out, hds, show ckSi b = R by unfold ckSi; rw [hR, if_pos hz], if_pos hz])
        clear hds hR hE
        go_wp2_with (first
            | (go_at_call 37; refine (spanCheck_any _ _ _ _ _).mono ?_; rintro e_1 w_1 ⟨rfl, hb_1⟩; rw [HRR.out]; have k_1 := k0.call hb_1; have B_1 := B0.trans (hb_1.mono B0.size); obtain ⟨c0_1, c1_1, c2_1, cf_1, cz_1⟩ := k_1.three')
            | fail)
        go_ret
        exact ⟨ret_int (HR0.out.trans hd'.out).symm, B_1⟩
    · have hd' : Hid (ckSis L = 0) := by unfold Hid; rw [hd.out, List.drop_eq_nil_of_le (by rw [HL.out]; omega)]; rfl
      go_wp2_with fail
      go_ret
      exact ⟨ret_int (HR0.out.trans hd'.out).symm, hB⟩
set_option maxHeartbeats 1600000 in
theorem check_any (v : Vg) (p : Vp) (w : World) (hF : p.Fit) (hLF : LvFit v) (hV : VoyAt w w.heap.size v p) : Calls Tryd.prog 7 #[.agg (vcs v p)] w fun e w' => e = .returned (.int .i64 (ckV v)) ∧ Below w.heap.size w w' := by
  have k0 := Bx.new w 26 (vcs v p)
  have B0 := (Below.refl w.heap.size w).alloc (Nat.le_refl _) (.cells (vcs v p) 26)
  obtain ⟨x1, e1⟩ : ∃ x, ckBg v = x := ⟨_, rfl⟩
  obtain ⟨x2, e2⟩ : ∃ x, ckHs v.hs = x := ⟨_, rfl⟩
  obtain ⟨x4, e4⟩ : ∃ x, ckSs v.ss = x := ⟨_, rfl⟩
  obtain ⟨x5, e5⟩ : ∃ x, ckCs v.ls = x := ⟨_, rfl⟩
  rw [vcs_def] at k0 B0 ⊢
  by_cases z1 : x1 = 0
  case neg =>
    have n1 : (x1 != 0) = true := by simpa using z1
    have HR : Hid (ckV v = x1) := Lib.hid (by unfold ckV; rw [e1, if_pos z1])
    rw [HR.out]
    clear HR
    have E1 := Lib.hid e1
    have E2 := Lib.hid e2
    have E4 := Lib.hid e4
    have E5 := Lib.hid e5
    clear e1 e2 e4 e5
    go_enter Tryd.func7, Tryd.ntmps7
    go_wp2_with (first
        | (go_at_call 16; refine (checkBarge_any v p _).mono ?_; rintro e_1 w_1 ⟨rfl, hb_1⟩; rw [E1.out]; have k_1 := k0.call hb_1; have B_1 := B0.trans (hb_1.mono B0.size); obtain ⟨c0_1, c1_1, c2_1, c3_1, c4_1, c5_1, c6_1, cf_1, cz_1⟩ := k_1.seven)
        | fail)
    go_ret
    exact ⟨rfl, B_1⟩
  subst z1
  by_cases z2 : x2 = 0
  case neg =>
    have n2 : (x2 != 0) = true := by simpa using z2
    have HR : Hid (ckV v = x2) := Lib.hid (by unfold ckV; rw [e1, if_neg (by simp), e2, if_pos z2])
    rw [HR.out]
    clear HR
    have E1 := Lib.hid e1
    have E2 := Lib.hid e2
    have E4 := Lib.hid e4
    have E5 := Lib.hid e5
    clear e1 e2 e4 e5
    go_enter Tryd.func7, Tryd.ntmps7
    go_wp2_with (first
        | (go_at_call 17; have _t := hb_1; clear _t; refine (checkHolds_any _ _ _ _ _ hF.hn hV.hl ((hV.hs.below B_1).more (B_1).size)).mono ?_; rintro e_2 w_2 ⟨rfl, hb_2⟩; rw [E2.out]; have k_2 := k_1.call hb_2; have B_2 := B_1.trans (hb_2.mono B_1.size); obtain ⟨c0_2, c1_2, c2_2, c3_2, c4_2, c5_2, c6_2, cf_2, cz_2⟩ := k_2.seven)
        | (go_at_call 16; refine (checkBarge_any v p _).mono ?_; rintro e_1 w_1 ⟨rfl, hb_1⟩; rw [E1.out]; have k_1 := k0.call hb_1; have B_1 := B0.trans (hb_1.mono B0.size); obtain ⟨c0_1, c1_1, c2_1, c3_1, c4_1, c5_1, c6_1, cf_1, cz_1⟩ := k_1.seven)
        | fail)
    go_ret
    exact ⟨rfl, B_2⟩
  subst z2
  by_cases h3 : 0 ≤ v.le ∧ v.le ≤ 2880
  case neg =>
    have HR : Hid (ckV v = 1) := Lib.hid (by unfold ckV; rw [e1, if_neg (by simp), e2, if_neg (by simp), if_pos h3])
    rw [HR.out]
    clear HR
    have E1 := Lib.hid e1
    have E2 := Lib.hid e2
    have E4 := Lib.hid e4
    have E5 := Lib.hid e5
    clear e1 e2 e4 e5
    go_enter Tryd.func7, Tryd.ntmps7
    go_wp2_with (first
        | (go_at_call 18; have _t := hb_2; clear _t; refine (isWithin_no _ _ _ _ h3).mono ?_; rintro e_3 w_3 ⟨rfl, hb_3⟩; have k_3 := k_2.call hb_3; have B_3 := B_2.trans (hb_3.mono B_2.size); obtain ⟨c0_3, c1_3, c2_3, c3_3, c4_3, c5_3, c6_3, cf_3, cz_3⟩ := k_3.seven)
        | (go_at_call 17; have _t := hb_1; clear _t; refine (checkHolds_any _ _ _ _ _ hF.hn hV.hl ((hV.hs.below B_1).more (B_1).size)).mono ?_; rintro e_2 w_2 ⟨rfl, hb_2⟩; rw [E2.out]; have k_2 := k_1.call hb_2; have B_2 := B_1.trans (hb_2.mono B_1.size); obtain ⟨c0_2, c1_2, c2_2, c3_2, c4_2, c5_2, c6_2, cf_2, cz_2⟩ := k_2.seven)
        | (go_at_call 16; refine (checkBarge_any v p _).mono ?_; rintro e_1 w_1 ⟨rfl, hb_1⟩; rw [E1.out]; have k_1 := k0.call hb_1; have B_1 := B0.trans (hb_1.mono B0.size); obtain ⟨c0_1, c1_1, c2_1, c3_1, c4_1, c5_1, c6_1, cf_1, cz_1⟩ := k_1.seven)
        | fail)
    go_ret
    exact ⟨rfl, B_3⟩
  by_cases z4 : x4 = 0
  case neg =>
    have n4 : (x4 != 0) = true := by simpa using z4
    have HR : Hid (ckV v = x4) := Lib.hid (by unfold ckV; rw [e1, if_neg (by simp), e2, if_neg (by simp), if_neg (fun h => h h3), e4, if_pos z4])
    rw [HR.out]
    clear HR
    have E1 := Lib.hid e1
    have E2 := Lib.hid e2
    have E4 := Lib.hid e4
    have E5 := Lib.hid e5
    clear e1 e2 e4 e5
    go_enter Tryd.func7, Tryd.ntmps7
    go_wp2_with (first
        | (go_at_call 19; have _t := hb_3; clear _t; refine (checkSills_any _ _ _ _ _ hF.sn hV.sl ((hV.ss.below B_3).more (B_3).size) hLF).mono ?_; rintro e_4 w_4 ⟨rfl, hb_4⟩; rw [E4.out]; have k_4 := k_3.call hb_4; have B_4 := B_3.trans (hb_4.mono B_3.size); obtain ⟨c0_4, c1_4, c2_4, c3_4, c4_4, c5_4, c6_4, cf_4, cz_4⟩ := k_4.seven)
        | (go_at_call 18; have _t := hb_2; clear _t; refine (isWithin_yes _ _ _ _ h3).mono ?_; rintro e_3 w_3 ⟨rfl, hb_3⟩; have k_3 := k_2.call hb_3; have B_3 := B_2.trans (hb_3.mono B_2.size); obtain ⟨c0_3, c1_3, c2_3, c3_3, c4_3, c5_3, c6_3, cf_3, cz_3⟩ := k_3.seven)
        | (go_at_call 17; have _t := hb_1; clear _t; refine (checkHolds_any _ _ _ _ _ hF.hn hV.hl ((hV.hs.below B_1).more (B_1).size)).mono ?_; rintro e_2 w_2 ⟨rfl, hb_2⟩; rw [E2.out]; have k_2 := k_1.call hb_2; have B_2 := B_1.trans (hb_2.mono B_1.size); obtain ⟨c0_2, c1_2, c2_2, c3_2, c4_2, c5_2, c6_2, cf_2, cz_2⟩ := k_2.seven)
        | (go_at_call 16; refine (checkBarge_any v p _).mono ?_; rintro e_1 w_1 ⟨rfl, hb_1⟩; rw [E1.out]; have k_1 := k0.call hb_1; have B_1 := B0.trans (hb_1.mono B0.size); obtain ⟨c0_1, c1_1, c2_1, c3_1, c4_1, c5_1, c6_1, cf_1, cz_1⟩ := k_1.seven)
        | fail)
    go_ret
    exact ⟨rfl, B_4⟩
  subst z4
  have HR : Hid (ckV v = x5) := Lib.hid (by unfold ckV; rw [e1, if_neg (by simp), e2, if_neg (by simp), if_neg (fun h => h h3), e4, if_neg (by simp), e5])
  rw [HR.out]
  clear HR
  have E1 := Lib.hid e1
  have E2 := Lib.hid e2
  have E4 := Lib.hid e4
  have E5 := Lib.hid e5
  clear e1 e2 e4 e5
  go_enter Tryd.func7, Tryd.ntmps7
  go_wp2_with (first
      | (go_at_call 20; have _t := hb_4; clear _t; refine (checkLots_any _ _ _ _ _ hF.ln hV.ll ((hV.ls.below B_4).more (B_4).size)).mono ?_; rintro e_5 w_5 ⟨rfl, hb_5⟩; rw [E5.out]; have k_5 := k_4.call hb_5; have B_5 := B_4.trans (hb_5.mono B_4.size); obtain ⟨c0_5, c1_5, c2_5, c3_5, c4_5, c5_5, c6_5, cf_5, cz_5⟩ := k_5.seven)
      | (go_at_call 19; have _t := hb_3; clear _t; refine (checkSills_any _ _ _ _ _ hF.sn hV.sl ((hV.ss.below B_3).more (B_3).size) hLF).mono ?_; rintro e_4 w_4 ⟨rfl, hb_4⟩; rw [E4.out]; have k_4 := k_3.call hb_4; have B_4 := B_3.trans (hb_4.mono B_3.size); obtain ⟨c0_4, c1_4, c2_4, c3_4, c4_4, c5_4, c6_4, cf_4, cz_4⟩ := k_4.seven)
      | (go_at_call 18; have _t := hb_2; clear _t; refine (isWithin_yes _ _ _ _ h3).mono ?_; rintro e_3 w_3 ⟨rfl, hb_3⟩; have k_3 := k_2.call hb_3; have B_3 := B_2.trans (hb_3.mono B_2.size); obtain ⟨c0_3, c1_3, c2_3, c3_3, c4_3, c5_3, c6_3, cf_3, cz_3⟩ := k_3.seven)
      | (go_at_call 17; have _t := hb_1; clear _t; refine (checkHolds_any _ _ _ _ _ hF.hn hV.hl ((hV.hs.below B_1).more (B_1).size)).mono ?_; rintro e_2 w_2 ⟨rfl, hb_2⟩; rw [E2.out]; have k_2 := k_1.call hb_2; have B_2 := B_1.trans (hb_2.mono B_1.size); obtain ⟨c0_2, c1_2, c2_2, c3_2, c4_2, c5_2, c6_2, cf_2, cz_2⟩ := k_2.seven)
      | (go_at_call 16; refine (checkBarge_any v p _).mono ?_; rintro e_1 w_1 ⟨rfl, hb_1⟩; rw [E1.out]; have k_1 := k0.call hb_1; have B_1 := B0.trans (hb_1.mono B0.size); obtain ⟨c0_1, c1_1, c2_1, c3_1, c4_1, c5_1, c6_1, cf_1, cz_1⟩ := k_1.seven)
      | fail)
  go_ret
  exact ⟨rfl, B_5⟩
end Go.Proofs.YtdlohfglmagneaaDoor
