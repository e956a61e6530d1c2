/- The errors of logs: bridge.checkRange, checkEvent, Check return what ckR, ckE, ckL say, for all arguments. -/
import Derived.Test.YtgbogdckmfencaaBase
set_option linter.unusedSimpArgs false
set_option linter.unusedVariables false
namespace Go.Proofs.Ytgbogdckmfencaa
open Go.RowKit
theorem checkRange_any (a b lo hi : Int) (w : World) :
    Calls Try.prog 62 #[.agg #[.int .i64 a, .int .i64 b], .int .i64 lo, .int .i64 hi] w fun e w' => e = .returned (.int .i64 (ckR a b lo hi)) ∧ Below w.heap.size w w' := by
  go_enter Try.func62, Try.ntmps62
  go_wp2
  all_goals
    go_ret
    refine ⟨ret_int ?_, (Below.refl _ _).alloc (Nat.le_refl _) _⟩
    unfold ckR
    repeat (first | rw [if_pos (by omega)] | rw [if_neg (by omega)])
set_option maxHeartbeats 400000 in
theorem checkEvent_any (st kd sh ld c0 c1 : Int) (w : World) (h1 : 1 ≤ st) (h2 : st ≤ 100) :
    Calls Try.prog 63 #[.int .i64 st, .agg #[.int .i64 kd, .int .i64 sh, .int .i64 ld, .int .i64 c0, .int .i64 c1]] w fun r w' => r = .returned (.int .i64 (ckE st ⟨kd, sh, ld, c0, c1⟩)) ∧ Below w.heap.size w w' := by
  go_enter Try.func63, Try.ntmps63
  go_wp2_with (go_at_call 62; refine (checkRange_any _ _ _ _ _).mono ?_; rintro e w1 ⟨rfl, hb⟩)
  all_goals
    go_ret
    refine ⟨ret_int ?_, by first | exact (Below.refl _ _).alloc (Nat.le_refl _) _ | exact ((Below.refl _ _).alloc (Nat.le_refl _) _).trans (hb.mono (by simp))⟩
    simp only [ckE]
    try simp only [bne_iff_ne, bne_eq_false_iff_eq] at *
    first | (exfalso; omega) | repeat (first | rw [if_pos (by omega)] | rw [if_neg (by omega)])
set_option maxHeartbeats 400000 in
theorem check_any (st z0 z1 : Int) (A : Option Addr) (n c : Nat) (es : List Ev) (w : World) (hn : n ≤ 9223372036854775807) (hl : es.length = n) (hA : EvsAt w w.heap.size A es):
    Calls Try.prog 22 #[.agg #[.int .i64 st, .int .i64 z0, .int .i64 z1, .slice A n c]] w fun e w' => e = .returned (.int .i64 (ckL st z0 z1 es)) ∧ Below w.heap.size w w' := by
  have HL := Lib.hid hl
  clear hl
  by_cases hs : 1 ≤ st ∧ st ≤ 100
  case neg =>
    have H1 : ckL st z0 z1 es = 1 := by unfold ckL; rw [if_pos (by omega)]
    go_enter Try.func22, Try.ntmps22
    go_wp2_with fail
    all_goals
      go_ret
      exact ⟨ret_int (by first | rfl | exact H1.symm), (Below.refl _ _).alloc (Nat.le_refl _) _⟩
  obtain ⟨hs1, hs2⟩ := hs
  have hs0 : ¬ (st < 1 ∨ 100 < st) := by omega
  by_cases hz : ckR z0 z1 (-200) 200 = 0
  case neg =>
    have hz' : (ckR z0 z1 (-200) 200 != 0) = true := by simpa using hz
    have H1 : ckL st z0 z1 es = ckR z0 z1 (-200) 200 := by unfold ckL; rw [if_neg hs0, if_pos hz]
    go_enter Try.func22, Try.ntmps22
    go_wp2_with (go_at_call 62; refine (checkRange_any _ _ _ _ _).mono ?_; rintro e w1 ⟨rfl, hb⟩; obtain ⟨hc, hf⟩ := bcell hb)
    go_ret
    exact ⟨ret_int H1.symm, ((Below.refl _ _).alloc (Nat.le_refl _) _).trans (hb.mono (by simp))⟩
  have hz' : (ckR z0 z1 (-200) 200 != 0) = false := by simpa using hz
  have HZ := Lib.hid hz
  clear hz
  by_cases hn2 : 14 < n
  case pos =>
    have H1 : ckL st z0 z1 es = 6 := by unfold ckL; rw [if_neg hs0, if_neg (fun h => h HZ.out), if_pos (by rw [HL.out]; omega)]
    go_enter Try.func22, Try.ntmps22
    go_wp2_with (go_at_call 62; refine (checkRange_any _ _ _ _ _).mono ?_; rintro e w1 ⟨rfl, hb⟩; obtain ⟨hc, hf⟩ := bcell hb)
    go_ret
    exact ⟨ret_int H1.symm, ((Below.refl _ _).alloc (Nat.le_refl _) _).trans (hb.mono (by simp))⟩
  have H1 : ckL st z0 z1 es = ckEs st es := by unfold ckL; rw [if_neg hs0, if_neg (fun h => h HZ.out), if_neg (by rw [HL.out]; omega)]
  have H1 := Lib.hid H1
  go_enter Try.func22, Try.ntmps22
  go_wp2_with (go_at_call 62; refine (checkRange_any _ _ _ _ _).mono ?_; rintro e w1 ⟨rfl, hb⟩; obtain ⟨hc, hf⟩ := bcell hb)
  go_loopw [28] (fun i wr => ∃ k : Nat, k ≤ n ∧ i = .int .i64 k ∧ Hid (ckEs st es = ckEs st (es.drop k)) ∧ Below (w.heap.size + 1) (w.alloc (.cells #[.int .i64 st, .int .i64 z0, .int .i64 z1, .slice A n c] 26)) wr) (fun i _ => n - (intOf i).toNat)
  case atStart => exact ⟨0, by omega, rfl, rfl, hb.mono (by simp)⟩
  case round =>
    clear hc hf hb
    obtain ⟨k, hk, rfl, hd, hB⟩ := hrel
    obtain ⟨hc, hf⟩ := bcell hB
    have hsz : w.heap.size < wr.heap.size := by have := hB.size; simp at this; omega
    by_cases hkn : k < n
    · have hke : k < es.length := by rw [HL.out]; exact hkn
      obtain ⟨ad, rfl, _, q0, q1, q2, q3, q4⟩ := ((hA.alloc (Nat.le_refl _) _).below (hB.mono (by omega))).at_ hke
      have hds := ckEs_step (st := st) hke
      generalize es[k] = e at *
      obtain ⟨kd, sh, ld, c0, c1⟩ := e
      by_cases hz0 : ckE st ⟨kd, sh, ld, c0, c1⟩ = 0
      · have hz1 : (ckE st ⟨kd, sh, ld, c0, c1⟩ != 0) = false := by simpa using hz0
        have hd' : Hid (ckEs st es = ckEs st (es.drop (k + 1))) := by
          unfold Hid; rw [hd.out, hds, if_neg (by simpa using hz0)]
        clear hds hz0 hA
        go_wp2_with (go_at_call 63; refine (checkEvent_any st kd sh ld c0 c1 _ hs1 hs2).mono ?_; rintro e w1 ⟨rfl, hb⟩; obtain ⟨hc', hf'⟩ := bcell hb)
        go_roundw
        case rel => exact ⟨k + 1, by omega, by go_num, hd', hB.trans (((Below.refl _ _).alloc hsz _).trans (hb.mono (by simp; omega)))⟩
        case measure => simp [intOf]; omega
      · have hz1 : (ckE st ⟨kd, sh, ld, c0, c1⟩ != 0) = true := by simpa using hz0
        have hd' : Hid (ckL st z0 z1 es = ckE st ⟨kd, sh, ld, c0, c1⟩) := by
          unfold Hid; rw [H1.out, hd.out, hds, if_pos (by simpa using hz0)]
        clear hds hz0 hA
        go_wp2_with (go_at_call 63; refine (checkEvent_any st kd sh ld c0 c1 _ hs1 hs2).mono ?_; rintro e w1 ⟨rfl, hb⟩; obtain ⟨hc', hf'⟩ := bcell hb)
        go_ret
        exact ⟨ret_int hd'.out.symm, ((((Below.refl _ _).alloc (Nat.le_refl _) _).trans (hB.mono (by omega))).alloc (by omega) _).trans (hb.mono (by simp; omega))⟩
    · have hd' : Hid (ckL st z0 z1 es = 0) := by
        unfold Hid; rw [H1.out, hd.out, List.drop_eq_nil_of_le (by rw [HL.out]; omega)]; rfl
      go_wp2_with fail
      go_ret
      exact ⟨ret_int hd'.out.symm, ((Below.refl _ _).alloc (Nat.le_refl _) _).trans (hB.mono (by omega))⟩
end Go.Proofs.Ytgbogdckmfencaa
