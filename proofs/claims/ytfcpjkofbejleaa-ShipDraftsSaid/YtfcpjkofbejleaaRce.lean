/- The reference: CheckStowage 30, Lightest 88, Heaviest 89, Ends 87. -/
import Derived.Test.YtfcpjkofbejleaaRcd
set_option linter.unusedSimpArgs false
set_option linter.unusedVariables false
namespace Go.Proofs.Ytfcpjkofbejleaa
open Go Go.RowKit
theorem ckSt_bad {v : Vg} {s : List Int} {R : Int} (h : ckV v = R) (hz : R ≠ 0) : ckSt v s = R := by
  unfold ckSt
  rw [h, if_pos hz]
theorem ckSt_yes {v : Vg} {s : List Int} (h : ckV v = 0) : ckSt v s = ckSo v s := by
  unfold ckSt ckSo
  rw [h, if_neg (by decide)]
set_option maxHeartbeats 1600000 in
theorem refCheckStowage_any (v : Vg) (p : Vp) (A : Option Addr) (sn sc : Nat) (s : List Int) (w : World) (hF : p.Fit) (hLF : LvFit v) (hV : VoyAt w w.heap.size v p) (hS : Sl w w.heap.size 1 A (inr s)) (hl : s.length = sn) (hsn : sn ≤ 1000000) :
    Calls Try.prog 30 #[.agg (vcs v p), .slice A sn sc] w fun e w' => e = .returned (.int .i64 (ckSt v s)) ∧ Below w.heap.size w w' := by
  have k0 := Bx.new w 26 (vcs v p)
  have B0 := (Below.refl w.heap.size w).alloc (Nat.le_refl _) (.cells (vcs v p) 26)
  have hV1 := hV.call B0
  have hS1 := hS.call B0
  have HSL := Lib.hid hl
  rw [vcs_def] at k0 B0 hV1 hS1 ⊢
  clear hV hS hl
  obtain ⟨R, hR⟩ : ∃ R, ckV v = R := ⟨_, rfl⟩
  have HRR := Lib.hid hR
  by_cases hz : R = 0
  · subst hz
    have HR := Lib.hid (ckSt_yes (s := s) hR)
    have HO := Lib.hid (ckV_ok hR)
    clear hR
    go_enter Try.func30, Try.ntmps30
    go_wp2_with (first
      | (go_at_call 70; refine (refStowed_any v p A sn sc s _ HO.out (hV1.call hb_1) (hS1.call hb_1) HSL.out hsn).mono ?_; rintro e_2 w_2 ⟨rfl, hb_2⟩; have B_2 := B_1.trans (hb_2.mono B_1.size))
      | (go_at_call 28; refine (refCheck_any v p _ hF hLF hV1).mono ?_; rintro e_1 w_1 ⟨rfl, hb_1⟩; rw [HRR.out]; have B_1 := B0.trans (hb_1.mono B0.size); have k_1 := k0.call hb_1; obtain ⟨c0, c1, c2, c3, c4, c5, c6, cf, cz⟩ := k_1.seven)
      | fail)
    go_ret
    exact ⟨ret_int HR.out.symm, B_2⟩
  · have hz1 : (R != 0) = true := by simpa using hz
    have HR := Lib.hid (ckSt_bad (s := s) hR hz)
    clear hR
    go_enter Try.func30, Try.ntmps30
    go_wp2_with (first
      | (go_at_call 28; refine (refCheck_any v p _ hF hLF hV1).mono ?_; rintro e_1 w_1 ⟨rfl, hb_1⟩; rw [HRR.out]; have B_1 := B0.trans (hb_1.mono B0.size))
      | fail)
    go_ret
    exact ⟨ret_int HR.out.symm, B_1⟩
set_option maxHeartbeats 1600000 in
theorem refLightest_any (v : Vg) (p : Vp) (w : World) (hl6 : p.ln ≤ 6) (hV : VoyAt w w.heap.size v p) :
    Calls Try.prog 88 #[.agg (vcs v p)] w fun e w' => (∃ A c, e = .returned (.slice A p.ln c) ∧ w'.ownsRow w.heap.size 3 1 (.slice A p.ln c) p.ln (inr (v.ls.map (ton true))).flatten) ∧ Below w.heap.size w w' := by
  have k0 := Bx.new w 26 (vcs v p)
  have B0 := (Below.refl w.heap.size w).alloc (Nat.le_refl _) (.cells (vcs v p) 26)
  have HLL := Lib.hid hV.ll
  obtain ⟨i3, hi3, hz3, hs3, iy3⟩ := info_parts info3'
  rw [vcs_def] at k0 B0 ⊢
  obtain ⟨W1, hW1⟩ : ∃ x, w.alloc (.cells #[.int .i64 v.li, .int .i64 v.un, .int .i64 v.tr, .slice p.HA p.hn p.hc, .int .i64 v.le, .slice p.SA p.sn p.sc, .slice p.LA p.ln p.lc] 26) = x := ⟨_, rfl⟩
  have HW := Lib.hid hW1
  rw [hW1] at k0 B0
  clear hW1
  go_enter Try.func88, Try.ntmps88
  go_upto_region 1 with fail
  rw [HW.out]
  go_wp2_with fail
  go_loopw [3, 4] (fun lv i wr => ∃ (k : Nat) (X : Option Addr) (c : Nat) (L : List Int), k ≤ p.ln ∧ i = .int .i64 k ∧ lv = .slice X k c ∧ Hid (L = (v.ls.take k).map (ton true)) ∧ wr.ownsRow w.heap.size 3 1 (.slice X k c) k (inr L).flatten ∧ Below w.heap.size w wr ∧ Bx wr w.heap.size 26 #[.int .i64 v.li, .int .i64 v.un, .int .i64 v.tr, .slice p.HA p.hn p.hc, .int .i64 v.le, .slice p.SA p.sn p.sc, .slice p.LA p.ln p.lc]) (fun _ i _ => p.ln - (intOf i).toNat)
  case atStart => exact ⟨0, none, 0, [], by omega, rfl, rfl, Lib.hid rfl, World.ownsRow_nil _ _ _ _, B0, k0⟩
  case round =>
    clear k0 B0
    obtain ⟨k, X, c, L, hk, rfl, rfl, HLK, oL, hB, kr⟩ := hrel
    obtain ⟨l0, l1, l2, l3, l4, l5, l6, lf', lz⟩ := kr.seven
    by_cases hkn : k < p.ln
    · have hke : k < v.ls.length := by rw [HLL.out]; exact hkn
      obtain ⟨ad, hLA, _, q0, q1, _⟩ := cg_at (hV.call hB).ls hke
      have htk := List.take_succ_eq_append_getElem hke
      generalize v.ls[k] = b at *
      rw [hLA] at l6
      have HLA := Lib.hid hLA
      have HTK := Lib.hid htk
      have hiw : IntKind.i64.wrap ((k : Int) + 1) = (k : Int) + 1 := IntWalk.i64_in _ (by omega)
      have kn := Bx.new wr 3 #[.int .i64 b.t0]
      have oL1 := oL.alloc (.cells #[.int .i64 b.t0] 3)
      have hB1 := hB.alloc hB.size (.cells #[.int .i64 b.t0] 3)
      have k1 := kr.alloc (.cells #[.int .i64 b.t0] 3)
      have hBs := hB1.size
      clear hLA htk hke
      go_wp2_with (first
        | (at_builtin; refine wpList_append_own _ rfl (.tmp 12) (.tmp 20) 27 rfl w.heap.size 3 i3 _ 1 8 Try.underlying27 hi3 hz3 hs3 iy3 rfl (by decide) (.slice X k c) k (inr L).flatten rfl oL1 ⟨wr.heap.size, 0, none⟩ 1 1 [.int .i64 b.t0] rfl rfl (bx_news kn) (by simp [Value.oneCell']) (by unfold maxLen; omega) (by omega) (by omega) ?_; intro v' w' o1 o2 o3; obtain ⟨X', x', rfl⟩ := own_shape o1)
        | fail)
      have HL2 := Lib.hid (show L ++ [b.t0] = (v.ls.take (k + 1)).map (ton true) by rw [HLK.out, HTK.out]; simp [ton])
      go_roundw
      case rel => exact ⟨k + 1, X', x', _, by omega, by go_num, rfl, HL2, by rw [inr_snoc]; exact o1, hB1.grown o2 hB1.size (fun i e => (oL1.lt i e).1), k1.grown o2 (own_bx oL1 k1 (by decide))⟩
      case measure => simp [intOf]; omega
    · obtain rfl : k = p.ln := by omega
      have e : L = v.ls.map (ton true) := by rw [HLK.out, ← HLL.out, List.take_length]
      go_wp2_with fail
      go_ret
      exact ⟨⟨X, c, rfl, by rw [← e]; exact oL⟩, hB⟩
set_option maxHeartbeats 1600000 in
theorem refHeaviest_any (v : Vg) (p : Vp) (w : World) (hl6 : p.ln ≤ 6) (hV : VoyAt w w.heap.size v p) :
    Calls Try.prog 89 #[.agg (vcs v p)] w fun e w' => (∃ A c, e = .returned (.slice A p.ln c) ∧ w'.ownsRow w.heap.size 3 1 (.slice A p.ln c) p.ln (inr (v.ls.map (ton false))).flatten) ∧ Below w.heap.size w w' := by
  have k0 := Bx.new w 26 (vcs v p)
  have B0 := (Below.refl w.heap.size w).alloc (Nat.le_refl _) (.cells (vcs v p) 26)
  have HLL := Lib.hid hV.ll
  obtain ⟨i3, hi3, hz3, hs3, iy3⟩ := info_parts info3'
  rw [vcs_def] at k0 B0 ⊢
  obtain ⟨W1, hW1⟩ : ∃ x, w.alloc (.cells #[.int .i64 v.li, .int .i64 v.un, .int .i64 v.tr, .slice p.HA p.hn p.hc, .int .i64 v.le, .slice p.SA p.sn p.sc, .slice p.LA p.ln p.lc] 26) = x := ⟨_, rfl⟩
  have HW := Lib.hid hW1
  rw [hW1] at k0 B0
  clear hW1
  go_enter Try.func89, Try.ntmps89
  go_upto_region 1 with fail
  rw [HW.out]
  go_wp2_with fail
  go_loopw [3, 4] (fun lv i wr => ∃ (k : Nat) (X : Option Addr) (c : Nat) (L : List Int), k ≤ p.ln ∧ i = .int .i64 k ∧ lv = .slice X k c ∧ Hid (L = (v.ls.take k).map (ton false)) ∧ wr.ownsRow w.heap.size 3 1 (.slice X k c) k (inr L).flatten ∧ Below w.heap.size w wr ∧ Bx wr w.heap.size 26 #[.int .i64 v.li, .int .i64 v.un, .int .i64 v.tr, .slice p.HA p.hn p.hc, .int .i64 v.le, .slice p.SA p.sn p.sc, .slice p.LA p.ln p.lc]) (fun _ i _ => p.ln - (intOf i).toNat)
  case atStart => exact ⟨0, none, 0, [], by omega, rfl, rfl, Lib.hid rfl, World.ownsRow_nil _ _ _ _, B0, k0⟩
  case round =>
    clear k0 B0
    obtain ⟨k, X, c, L, hk, rfl, rfl, HLK, oL, hB, kr⟩ := hrel
    obtain ⟨l0, l1, l2, l3, l4, l5, l6, lf', lz⟩ := kr.seven
    by_cases hkn : k < p.ln
    · have hke : k < v.ls.length := by rw [HLL.out]; exact hkn
      obtain ⟨ad, hLA, _, q0, q1, _⟩ := cg_at (hV.call hB).ls hke
      have htk := List.take_succ_eq_append_getElem hke
      generalize v.ls[k] = b at *
      rw [hLA] at l6
      have HLA := Lib.hid hLA
      have HTK := Lib.hid htk
      have hiw : IntKind.i64.wrap ((k : Int) + 1) = (k : Int) + 1 := IntWalk.i64_in _ (by omega)
      have kn := Bx.new wr 3 #[.int .i64 b.t1]
      have oL1 := oL.alloc (.cells #[.int .i64 b.t1] 3)
      have hB1 := hB.alloc hB.size (.cells #[.int .i64 b.t1] 3)
      have k1 := kr.alloc (.cells #[.int .i64 b.t1] 3)
      have hBs := hB1.size
      clear hLA htk hke
      go_wp2_with (first
        | (at_builtin; refine wpList_append_own _ rfl (.tmp 12) (.tmp 20) 27 rfl w.heap.size 3 i3 _ 1 8 Try.underlying27 hi3 hz3 hs3 iy3 rfl (by decide) (.slice X k c) k (inr L).flatten rfl oL1 ⟨wr.heap.size, 0, none⟩ 1 1 [.int .i64 b.t1] rfl rfl (bx_news kn) (by simp [Value.oneCell']) (by unfold maxLen; omega) (by omega) (by omega) ?_; intro v' w' o1 o2 o3; obtain ⟨X', x', rfl⟩ := own_shape o1)
        | fail)
      have HL2 := Lib.hid (show L ++ [b.t1] = (v.ls.take (k + 1)).map (ton false) by rw [HLK.out, HTK.out]; simp [ton])
      go_roundw
      case rel => exact ⟨k + 1, X', x', _, by omega, by go_num, rfl, HL2, by rw [inr_snoc]; exact o1, hB1.grown o2 hB1.size (fun i e => (oL1.lt i e).1), k1.grown o2 (own_bx oL1 k1 (by decide))⟩
      case measure => simp [intOf]; omega
    · obtain rfl : k = p.ln := by omega
      have e : L = v.ls.map (ton false) := by rw [HLK.out, ← HLL.out, List.take_length]
      go_wp2_with fail
      go_ret
      exact ⟨⟨X, c, rfl, by rw [← e]; exact oL⟩, hB⟩
end Go.Proofs.Ytfcpjkofbejleaa
