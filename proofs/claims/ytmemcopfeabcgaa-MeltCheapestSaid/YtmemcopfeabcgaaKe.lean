/- Whether a blend keeps its limits, fits, is good: melt.keeps, fits, isGood. -/
import Derived.Test.YtmemcopfeabcgaaWe
set_option linter.unusedSimpArgs false
set_option linter.unusedVariables false
namespace Go.Proofs.Ytmemcopfeabcgaa
open Go Go.RowKit
theorem barr_def (f : Nat → Int) : barr f = #[.int .i64 (f 0), .int .i64 (f 1), .int .i64 (f 2), .int .i64 (f 3)] := by unfold barr; rfl
theorem Bx.barr {w : World} {g : Nat} {t : TypeId} {f : Nat → Int} (h : Bx w g t (Go.Proofs.Ytmemcopfeabcgaa.barr f)) : w.cell? ⟨g, 0, none⟩ = some (.int .i64 (f 0)) ∧ w.cell? ⟨g, 1, none⟩ = some (.int .i64 (f 1)) ∧ w.cell? ⟨g, 2, none⟩ = some (.int .i64 (f 2)) ∧ w.cell? ⟨g, 3, none⟩ = some (.int .i64 (f 3)) ∧ (∀ o, w.frozen? ⟨g, o, none⟩ = false) ∧ g < w.heap.size := by
  rw [barr_def] at h
  exact h.four
theorem kv_nk {o : Od} {f : Nat → Int} {k : Nat} (hk : k < o.lm.length) (h : 0 < exN o f k o.bs.length) : kv o f = 2 := by
  unfold kv
  rw [if_pos (nk_mono (k := k + 1) (by omega) (by rw [nk_succ]; simp [h]))]
set_option maxRecDepth 100000 in
set_option maxHeartbeats 1000000 in
theorem keeps_any (LA : Option Addr) (ln lc : Nat) (BA : Option Addr) (bn bc : Nat) (o : Od) (f : Nat → Int) (w : World) (hl : o.lm.length = ln) (hb' : o.bs.length = bn) (hA : OrdAt w w.heap.size LA BA o) (ho : o.Ok) (hf : Six f) :
    Calls Try.prog 49 #[.agg #[.slice LA ln lc, .int .i64 o.le, .int .i64 o.mo, .slice BA bn bc], .agg (barr f)] w fun e w' => e = .returned (.int .i64 (kv o f)) ∧ Below w.heap.size w w' := by
  have K1 := (Bx.new w 27 #[.slice LA ln lc, .int .i64 o.le, .int .i64 o.mo, .slice BA bn bc]).alloc (.cells (barr f) 81)
  have K2 := Bx.at (w.alloc (.cells #[.slice LA ln lc, .int .i64 o.le, .int .i64 o.mo, .slice BA bn bc] 27)) 81 (barr f) (n := w.heap.size + 1) (by simp)
  have B0 := ((Below.refl w.heap.size w).alloc (Nat.le_refl _) (.cells #[.slice LA ln lc, .int .i64 o.le, .int .i64 o.mo, .slice BA bn bc] 27)).alloc (by simp) (.cells (barr f) 81)
  have HB := Lib.hid hb'
  have HL := Lib.hid hl
  have HO := Lib.hid ho
  have HF := Lib.hid hf
  have hln3 : ln ≤ 3 := by rw [← hl]; exact ho.lm
  clear hb' hl ho hf
  go_enter Try.func49, Try.ntmps49
  go_wp2_with fail
  go_loopw [11, 5] (fun i v wr => ∃ (k : Nat) (x : Int), k ≤ ln ∧ i = .int .i64 k ∧ v = .int .i64 x ∧ Hid (nk o f k = false ∧ x = if xk o f k = true then 3 else 1) ∧ Bx wr w.heap.size 27 #[.slice LA ln lc, .int .i64 o.le, .int .i64 o.mo, .slice BA bn bc] ∧ Bx wr (w.heap.size + 1) 81 (barr f) ∧ Below w.heap.size w wr) (fun i _ _ => ln - (intOf i).toNat)
  case atStart => exact ⟨0, 1, by omega, rfl, rfl, Lib.hid ⟨rfl, rfl⟩, K1, K2, B0⟩
  case round =>
    clear K1 K2 B0
    obtain ⟨k, x, hk, rfl, rfl, hx, k1, k2, hB⟩ := hrel
    obtain ⟨o0, o1, o2, o3, of, oz⟩ := k1.four
    obtain ⟨f0, f1, f2, f3, ff, fz⟩ := k2.barr
    by_cases hkn : k < ln
    · obtain ⟨y, hy⟩ : ∃ y, exN o f k bn = y := ⟨_, rfl⟩
      obtain ⟨z, hz⟩ : ∃ z, exX o f k bn = z := ⟨_, rfl⟩
      have HY := Lib.hid hy
      have HZ := Lib.hid hz
      clear hy hz
      by_cases h1 : 0 < y
      · have H2 : Hid (kv o f = 2) := Lib.hid (kv_nk (by rw [HL.out]; exact hkn) (by rw [HB.out, HY.out]; exact h1))
        clear hx
        go_wp2_with (first | (go_at_call 82; rw [← barr_def f]; refine (excess_any LA ln lc BA bn bc o f k _ HL.out HB.out ((hA.below hB).more hB.size) HO.out HF.out hkn).mono ?_; rintro e w1 ⟨rfl, hb⟩; rw [HY.out, HZ.out]))
        go_ret
        exact ⟨ret_int H2.out.symm, (hB.trans (hb.mono hB.size)).alloc (hB.trans (hb.mono hB.size)).size _⟩
      · have hn1 : Hid (nk o f (k + 1) = false) := by unfold Hid; rw [nk_succ, hx.out.1, HB.out, HY.out]; simp; omega
        by_cases h2 : 0 < z
        · have hx1 : Hid ((3 : Int) = if xk o f (k + 1) = true then 3 else 1) := by unfold Hid; rw [xk_succ, HB.out, HZ.out, decide_eq_true h2]; simp
          clear hx
          go_wp2_with (first | (go_at_call 82; rw [← barr_def f]; refine (excess_any LA ln lc BA bn bc o f k _ HL.out HB.out ((hA.below hB).more hB.size) HO.out HF.out hkn).mono ?_; rintro e w1 ⟨rfl, hb⟩; rw [HY.out, HZ.out]))
          go_roundw
          case rel => exact ⟨k + 1, 3, by omega, by go_num, rfl, Lib.hid ⟨hn1.out, hx1.out⟩, (k1.call hb).alloc _, (k2.call hb).alloc _, (hB.trans (hb.mono hB.size)).alloc (hB.trans (hb.mono hB.size)).size _⟩
          case measure => simp [intOf]; omega
        · have hx1 : Hid (x = if xk o f (k + 1) = true then 3 else 1) := by unfold Hid; rw [xk_succ, HB.out, HZ.out, decide_eq_false h2, Bool.or_false]; exact hx.out.2
          clear hx
          go_wp2_with (first | (go_at_call 82; rw [← barr_def f]; refine (excess_any LA ln lc BA bn bc o f k _ HL.out HB.out ((hA.below hB).more hB.size) HO.out HF.out hkn).mono ?_; rintro e w1 ⟨rfl, hb⟩; rw [HY.out, HZ.out]))
          go_roundw
          case rel => exact ⟨k + 1, x, by omega, by go_num, rfl, Lib.hid ⟨hn1.out, hx1.out⟩, (k1.call hb).alloc _, (k2.call hb).alloc _, (hB.trans (hb.mono hB.size)).alloc (hB.trans (hb.mono hB.size)).size _⟩
          case measure => simp [intOf]; omega
    · obtain rfl : k = ln := by omega
      have H2 : Hid (kv o f = x) := by unfold Hid kv; rw [HL.out, hx.out.1, hx.out.2]; simp
      go_wp2_with fail
      go_ret
      exact ⟨ret_int H2.out.symm, hB⟩
set_option maxHeartbeats 1000000 in
theorem fits_any (LA : Option Addr) (ln lc : Nat) (BA : Option Addr) (bn bc : Nat) (o : Od) (f : Nat → Int) (w : World) (hl : o.lm.length = ln) (hb' : o.bs.length = bn) (hA : OrdAt w w.heap.size LA BA o) (ho : o.Ok) (hf : Six f) :
    Calls Try.prog 87 #[.agg #[.slice LA ln lc, .int .i64 o.le, .int .i64 o.mo, .slice BA bn bc], .agg (barr f)] w fun e w' => e = .returned (.bool (decide (o.le ≤ kil o f bn ∧ kil o f bn ≤ o.mo))) ∧ Below w.heap.size w w' := by
  have K1 := (Bx.new w 27 #[.slice LA ln lc, .int .i64 o.le, .int .i64 o.mo, .slice BA bn bc]).alloc (.cells (barr f) 81)
  have K2 := Bx.at (w.alloc (.cells #[.slice LA ln lc, .int .i64 o.le, .int .i64 o.mo, .slice BA bn bc] 27)) 81 (barr f) (n := w.heap.size + 1) (by simp)
  have B0 := ((Below.refl w.heap.size w).alloc (Nat.le_refl _) (.cells #[.slice LA ln lc, .int .i64 o.le, .int .i64 o.mo, .slice BA bn bc] 27)).alloc (by simp) (.cells (barr f) 81)
  have HC : Calls Try.prog 59 #[.agg #[.slice LA ln lc, .int .i64 o.le, .int .i64 o.mo, .slice BA bn bc], .agg (barr f)] ((w.alloc (.cells #[.slice LA ln lc, .int .i64 o.le, .int .i64 o.mo, .slice BA bn bc] 27)).alloc (.cells (barr f) 81)) fun e w' => e = .returned (.tuple #[.int .i64 (kil o f bn), .int .i64 (cst o f bn)]) ∧ Below ((w.alloc (.cells #[.slice LA ln lc, .int .i64 o.le, .int .i64 o.mo, .slice BA bn bc] 27)).alloc (.cells (barr f) 81)).heap.size ((w.alloc (.cells #[.slice LA ln lc, .int .i64 o.le, .int .i64 o.mo, .slice BA bn bc] 27)).alloc (.cells (barr f) 81)) w' := weigh_any LA ln lc BA bn bc o f _ hl hb' ((hA.below B0).more B0.size) ho hf
  obtain ⟨o0, o1, o2, o3, of, oz⟩ := K1.four
  obtain ⟨f0, f1, f2, f3, ff, fz⟩ := K2.barr
  generalize kil o f bn = x at *
  generalize cst o f bn = y at *
  by_cases h1 : o.le ≤ x
  · go_enter Try.func87, Try.ntmps87
    go_wp2_with (first | (go_at_call 59; rw [← barr_def f]; refine HC.mono ?_; rintro e w1 ⟨rfl, hb⟩; have k1 := K1.call hb; have B1 := B0.trans (hb.mono B0.size); clear o0 o1 o2 o3 of oz; obtain ⟨o0, o1, o2, o3, of, oz⟩ := k1.four))
    all_goals
      go_ret
      exact ⟨ret_bool (by first | (simp [h1]; done) | (simp; omega) | (simp [h1]; omega)), B1⟩
  · go_enter Try.func87, Try.ntmps87
    go_wp2_with (first | (go_at_call 59; rw [← barr_def f]; refine HC.mono ?_; rintro e w1 ⟨rfl, hb⟩; have k1 := K1.call hb; have B1 := B0.trans (hb.mono B0.size); clear o0 o1 o2 o3 of oz; obtain ⟨o0, o1, o2, o3, of, oz⟩ := k1.four))
    all_goals
      go_ret
      exact ⟨ret_bool (by first | (simp [h1]; done) | (simp; omega) | (simp [h1]; omega)), B1⟩
set_option maxHeartbeats 1000000 in
theorem isGood_any (LA : Option Addr) (ln lc : Nat) (BA : Option Addr) (bn bc : Nat) (o : Od) (f : Nat → Int) (w : World) (hl : o.lm.length = ln) (hb' : o.bs.length = bn) (hA : OrdAt w w.heap.size LA BA o) (ho : o.Ok) (hf : Six f) :
    Calls Try.prog 60 #[.agg #[.slice LA ln lc, .int .i64 o.le, .int .i64 o.mo, .slice BA bn bc], .agg (barr f)] w fun e w' => e = .returned (.bool (decide (Good o f))) ∧ Below w.heap.size w w' := by
  have K1 := (Bx.new w 27 #[.slice LA ln lc, .int .i64 o.le, .int .i64 o.mo, .slice BA bn bc]).alloc (.cells (barr f) 81)
  have K2 := Bx.at (w.alloc (.cells #[.slice LA ln lc, .int .i64 o.le, .int .i64 o.mo, .slice BA bn bc] 27)) 81 (barr f) (n := w.heap.size + 1) (by simp)
  have B0 := ((Below.refl w.heap.size w).alloc (Nat.le_refl _) (.cells #[.slice LA ln lc, .int .i64 o.le, .int .i64 o.mo, .slice BA bn bc] 27)).alloc (by simp) (.cells (barr f) 81)
  have HC := fits_any LA ln lc BA bn bc o f ((w.alloc (.cells #[.slice LA ln lc, .int .i64 o.le, .int .i64 o.mo, .slice BA bn bc] 27)).alloc (.cells (barr f) 81)) hl hb' ((hA.below B0).more B0.size) ho hf
  obtain ⟨o0, o1, o2, o3, of, oz⟩ := K1.four
  obtain ⟨f0, f1, f2, f3, ff, fz⟩ := K2.barr
  have HQ : ∀ w', Below w.heap.size w w' → Calls Try.prog 49 #[.agg #[.slice LA ln lc, .int .i64 o.le, .int .i64 o.mo, .slice BA bn bc], .agg (barr f)] w' fun e w'' => e = .returned (.int .i64 (kv o f)) ∧ Below w'.heap.size w' w'' := fun w' hb => keeps_any LA ln lc BA bn bc o f w' hl hb' ((hA.below hb).more hb.size) ho hf
  have HG : Hid (Good o f ↔ (o.le ≤ kil o f bn ∧ kil o f bn ≤ o.mo) ∧ kv o f = 1) := by unfold Hid Good; rw [hb', and_assoc]
  generalize kil o f bn = x at *
  generalize kv o f = v at *
  by_cases h1 : o.le ≤ x ∧ x ≤ o.mo
  · rw [decide_eq_true h1] at HC
    by_cases hv : v = 1
    · subst hv
      have HD : Hid (decide (Good o f) = true) := Lib.hid (decide_eq_true (HG.out.2 ⟨h1, rfl⟩))
      go_enter Try.func60, Try.ntmps60
      go_wp2_with (first | (go_at_call 87; rw [← barr_def f]; refine HC.mono ?_; rintro e w1 ⟨rfl, hb⟩; have k1 := K1.call hb; have k2 := K2.call hb; have B1 := B0.trans (hb.mono B0.size); clear o0 o1 o2 o3 of oz f0 f1 f2 f3 ff fz; obtain ⟨o0, o1, o2, o3, of, oz⟩ := k1.four; obtain ⟨f0, f1, f2, f3, ff, fz⟩ := k2.barr) | (go_at_call 49; rw [← barr_def f]; refine (HQ _ B1).mono ?_; rintro e w2 ⟨rfl, hb2⟩))
      go_ret
      exact ⟨ret_bool HD.out.symm, B1.trans (hb2.mono B1.size)⟩
    · have hv' : (v == 1) = false := by simpa using hv
      have HD : Hid (decide (Good o f) = false) := Lib.hid (decide_eq_false fun h => hv (HG.out.1 h).2)
      go_enter Try.func60, Try.ntmps60
      go_wp2_with (first | (go_at_call 87; rw [← barr_def f]; refine HC.mono ?_; rintro e w1 ⟨rfl, hb⟩; have k1 := K1.call hb; have k2 := K2.call hb; have B1 := B0.trans (hb.mono B0.size); clear o0 o1 o2 o3 of oz f0 f1 f2 f3 ff fz; obtain ⟨o0, o1, o2, o3, of, oz⟩ := k1.four; obtain ⟨f0, f1, f2, f3, ff, fz⟩ := k2.barr) | (go_at_call 49; rw [← barr_def f]; refine (HQ _ B1).mono ?_; rintro e w2 ⟨rfl, hb2⟩))
      go_ret
      exact ⟨ret_bool HD.out.symm, B1.trans (hb2.mono B1.size)⟩
  · rw [decide_eq_false h1] at HC
    have HD : Hid (decide (Good o f) = false) := Lib.hid (decide_eq_false fun h => h1 (HG.out.1 h).1)
    go_enter Try.func60, Try.ntmps60
    go_wp2_with (first | (go_at_call 87; rw [← barr_def f]; refine HC.mono ?_; rintro e w1 ⟨rfl, hb⟩; have B1 := B0.trans (hb.mono B0.size)))
    go_ret
    exact ⟨ret_bool HD.out.symm, B1⟩
end Go.Proofs.Ytmemcopfeabcgaa
