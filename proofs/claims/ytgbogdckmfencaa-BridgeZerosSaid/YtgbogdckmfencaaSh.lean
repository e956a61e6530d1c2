/- Contracts with the very world behind the call, for statements that leave their order open; bridge.shownZeros. -/
import Derived.Test.YtgbogdckmfencaaSm
import Derived.Test.YtgbogdckmfencaaBox
set_option linter.unusedSimpArgs false
set_option linter.unusedVariables false
namespace Go.Proofs.Ytgbogdckmfencaa
open Go.RowKit
theorem onBridge_w (st kd sh ld c0 c1 : Int) (w : World) (h1 : 1 ≤ st) (h2 : st ≤ 100) (h3 : -60000 ≤ sh) (h4 : sh ≤ 60000) :
    Calls Try.prog 98 #[.int .i64 st, .agg #[.int .i64 kd, .int .i64 sh, .int .i64 ld, .int .i64 c0, .int .i64 c1]] w fun e w' => e = .returned (.agg #[.int .i64 (sh - st / 2), .int .i64 (sh - st / 2 + st - 1)]) ∧
      (w.alloc (.cells #[.int .i64 kd, .int .i64 sh, .int .i64 ld, .int .i64 c0, .int .i64 c1] 28)).alloc (.cells #[.int .i64 (sh - st / 2), .int .i64 (sh - st / 2 + st - 1)] 23) = w' := by
  have h0 : 0 ≤ st := by omega
  go_enter Try.func98, Try.ntmps98
  go_wp2
  exact bodyPost_ret (v := .agg #[.int .i64 (sh - st / 2), .int .i64 (sh - st / 2 + st - 1)]) (by simp [results, Try.results98, go_sem]) rfl ⟨rfl, rfl⟩
theorem loads_w (kd sh ld c0 c1 : Int) (w : World) :
    Calls Try.prog 99 #[.agg #[.int .i64 kd, .int .i64 sh, .int .i64 ld, .int .i64 c0, .int .i64 c1]] w fun e w' => e = .returned (.agg #[.int .i64 (ldLo kd ld), .int .i64 (ldHi kd ld)]) ∧
      (w.alloc (.cells #[.int .i64 kd, .int .i64 sh, .int .i64 ld, .int .i64 c0, .int .i64 c1] 28)).alloc (.cells #[.int .i64 (ldLo kd ld), .int .i64 (ldHi kd ld)] 23) = w' := by
  by_cases h2 : kd = 2
  · subst h2
    go_enter Try.func99, Try.ntmps99
    go_wp2
    exact bodyPost_ret (v := .agg #[.int .i64 (ldLo 2 ld), .int .i64 (ldHi 2 ld)]) (by simp [results, Try.results99, go_sem, ldLo, ldHi]) rfl ⟨rfl, by simp [ldLo, ldHi]⟩
  · by_cases h3 : kd = 3
    · subst h3
      go_enter Try.func99, Try.ntmps99
      go_wp2
      exact bodyPost_ret (v := .agg #[.int .i64 (ldLo 3 ld), .int .i64 (ldHi 3 ld)]) (by simp [results, Try.results99, go_sem, ldLo, ldHi]) rfl ⟨rfl, by simp [ldLo, ldHi]⟩
    · go_enter Try.func99, Try.ntmps99
      go_wp2
      exact bodyPost_ret (v := .agg #[.int .i64 (ldLo kd ld), .int .i64 (ldHi kd ld)]) (by simp [results, Try.results99, go_sem, ldLo, ldHi, h2, h3]) rfl ⟨rfl, by simp [ldLo, ldHi, h2, h3]⟩
theorem ldLo_bd (kd ld : Int) (h5 : 0 ≤ ld) (h6 : ld ≤ 60000) : 0 ≤ ldLo kd ld ∧ ldLo kd ld ≤ 60000 ∧ 0 ≤ ldHi kd ld ∧ ldHi kd ld ≤ 60000 := by
  unfold ldLo ldHi; split <;> (try split) <;> omega
attribute [local go_sem ↓] Go.wp_at_zero Go.wp_at_succ
set_option maxHeartbeats 1000000 in
theorem shownZeros_any (st kd sh ld c0 c1 : Int) (w : World) (h1 : 1 ≤ st) (h2 : st ≤ 100) (h3 : -60000 ≤ sh) (h4 : sh ≤ 60000) (h5 : 0 ≤ ld) (h6 : ld ≤ 60000) :
    Calls Try.prog 91 #[.int .i64 st, .agg #[.int .i64 kd, .int .i64 sh, .int .i64 ld, .int .i64 c0, .int .i64 c1]] w fun e w' => e = .returned (.agg #[.int .i64 (max (sh - st / 2 - ldHi kd ld) (-200)), .int .i64 (min (sh - st / 2 + st - 1 - ldLo kd ld) 200)]) ∧ Below w.heap.size w w' := by
  go_enter Try.func91, Try.ntmps91
  go_upto_region 1 with fail
  go_cut [5, 6] (fun v5 v6 wr => ∃ b5 b6 : Nat, v5 = .pointer (some ⟨b5, 0, none⟩) ∧ v6 = .pointer (some ⟨b6, 0, none⟩) ∧ wr.cell? ⟨b5, 0, none⟩ = some (.int .i64 (sh - st / 2)) ∧ wr.cell? ⟨b5, 1, none⟩ = some (.int .i64 (sh - st / 2 + st - 1)) ∧ wr.cell? ⟨b6, 0, none⟩ = some (.int .i64 (ldLo kd ld)) ∧ wr.cell? ⟨b6, 1, none⟩ = some (.int .i64 (ldHi kd ld)) ∧
    Below (w.heap.size + 2) ((w.alloc (.cells #[.int .i64 kd, .int .i64 sh, .int .i64 ld, .int .i64 c0, .int .i64 c1] 28)).alloc (.cells #[.int .i64 0, .int .i64 0] 23)) wr)
  case first =>
    go_region_held3 (fun w' => w'.cell? ⟨w.heap.size, 0, none⟩ = some (.int .i64 kd) ∧ w'.cell? ⟨w.heap.size, 1, none⟩ = some (.int .i64 sh) ∧ w'.cell? ⟨w.heap.size, 2, none⟩ = some (.int .i64 ld) ∧ w'.cell? ⟨w.heap.size, 3, none⟩ = some (.int .i64 c0) ∧ w'.cell? ⟨w.heap.size, 4, none⟩ = some (.int .i64 c1))
      (first | (go_keep; done) | (go_simp; done))
      (first | (go_at_call 98; refine (onBridge_w st kd sh ld c0 c1 _ h1 h2 h3 h4).mono ?_; rintro e w1 ⟨rfl, rfl⟩) | (go_at_call 99; refine (loads_w kd sh ld c0 c1 _).mono ?_; rintro e w2 ⟨rfl, rfl⟩))
    all_goals
      go_wp2_with fail
      go_meet
      refine ⟨_, _, rfl, rfl, by go_simp, by go_simp, by go_simp, by go_simp, ?_⟩
      repeat (first | exact Below.refl _ _ | refine Below.drew ?_ | refine Below.alloc ?_ (by simp; try omega) _ | refine Below.setCell ?_ (by simp) _ )
  case rest =>
    obtain ⟨b5, b6, rfl, rfl, p0, p1, p2, p3, hB⟩ := hcut
    have hl := ldLo_bd kd ld h5 h6
    obtain ⟨l1, l2, l3, l4⟩ := hl
    obtain ⟨r0, r1, rf, rz⟩ := ((Bx.at (w.alloc _) 23 #[.int .i64 0, .int .i64 0] (n := w.heap.size + 1) (by simp)).below hB (by omega)).two
    go_wp2_with (go_at_call 87; refine (meet_any _ _ _ _ _).mono ?_; rintro e w1 ⟨rfl, hb⟩; obtain ⟨r0', r1', rf', rz'⟩ := (((((Bx.at (w.alloc _) 23 #[.int .i64 0, .int .i64 0] (n := w.heap.size + 1) (by simp)).below hB (by omega)).alloc _)).below hb (by simp; omega)).two)
    refine bodyPost_ret (v := .agg #[.int .i64 (max (sh - st / 2 - ldHi kd ld) (-200)), .int .i64 (min (sh - st / 2 + st - 1 - ldLo kd ld) 200)]) (by simp [results, Try.results91, go_sem, r0', r1', World.cell?_setCell_same', World.cell?_setCell_other]) rfl ⟨rfl, ?_⟩
    refine Below.trans (((Below.refl _ _).alloc (Nat.le_refl _) _).alloc (by simp) _) (Below.trans (hB.mono (by omega)) (Below.setCell (Below.setCell (Below.trans ((Below.refl _ _).alloc (by omega) _) (hb.mono (by simp; omega))) (by simp) _) (by simp) _))
    repeat (first | exact Below.refl _ _ | refine Below.alloc ?_ (by simp; try omega) _ | refine Below.setCell ?_ (by simp) _ )
end Go.Proofs.Ytgbogdckmfencaa
