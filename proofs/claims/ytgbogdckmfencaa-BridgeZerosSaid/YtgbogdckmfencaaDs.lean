/- bridge.driverShare: what a driver adds to the net weight. -/
import Derived.Test.YtgbogdckmfencaaS2
import Derived.Test.YtgbogdckmfencaaCs
set_option linter.unusedSimpArgs false
set_option linter.unusedVariables false
namespace Go.Proofs.Ytgbogdckmfencaa
open Go.RowKit
attribute [local go_sem ↓] Go.wp_at_zero Go.wp_at_succ
/-- What a driver adds to the net weight, at least and at most. -/
def dsLo (fs bs d0 d1 : Int) : Int := min ((drLo bs - drHi fs) * d0) ((drLo bs - drHi fs) * d1)
def dsHi (fs bs d0 d1 : Int) : Int := max ((drHi bs - drLo fs) * d0) ((drHi bs - drLo fs) * d1)
set_option maxHeartbeats 4000000 in
theorem driverShare_any (FA : Option Addr) (fn fc : Nat) (BA : Option Addr) (bn bc : Nat) (fs bs d0 d1 : Int) (w : World) (h1 : 0 ≤ fs) (h2 : fs ≤ 2) (h3 : 0 ≤ bs) (h4 : bs ≤ 2) (g1 : 0 ≤ d0) (g2 : d0 ≤ 200) (g3 : 0 ≤ d1) (g4 : d1 ≤ 200) :
    Calls Try.prog 71 #[.agg #[.slice FA fn fc, .slice BA bn bc, .int .i64 fs, .int .i64 bs, .int .i64 d0, .int .i64 d1]] w fun e w' => e = .returned (.agg #[.int .i64 (dsLo fs bs d0 d1), .int .i64 (dsHi fs bs d0 d1)]) ∧ Below w.heap.size w w' := by
  go_enter Try.func71, Try.ntmps71
  go_upto_region 1 with fail
  go_cut [3, 4] (fun v5 v6 wr => ∃ b5 b6 : Nat, v5 = .pointer (some ⟨b5, 0, none⟩) ∧ v6 = .pointer (some ⟨b6, 0, none⟩) ∧ wr.cell? ⟨b5, 0, none⟩ = some (.int .i64 (drLo fs)) ∧ wr.cell? ⟨b5, 1, none⟩ = some (.int .i64 (drHi fs)) ∧ wr.cell? ⟨b6, 0, none⟩ = some (.int .i64 (drLo bs)) ∧ wr.cell? ⟨b6, 1, none⟩ = some (.int .i64 (drHi bs)) ∧
    Below (w.heap.size + 2) ((w.alloc (.cells #[.slice FA fn fc, .slice BA bn bc, .int .i64 fs, .int .i64 bs, .int .i64 d0, .int .i64 d1] 50)).alloc (.cells #[.int .i64 0, .int .i64 0] 23)) wr)
  case first =>
    go_region_held3 (fun w' => w'.cell? ⟨w.heap.size, 2, none⟩ = some (.int .i64 fs) ∧ w'.cell? ⟨w.heap.size, 3, none⟩ = some (.int .i64 bs))
      (first | (go_keep; done) | (go_simp; done))
      (first | (go_at_call_of 100 (Value.int .i64 fs); refine (drivers_w fs _).mono ?_; rintro e w1 ⟨rfl, rfl⟩) | (go_at_call_of 100 (Value.int .i64 bs); refine (drivers_w bs _).mono ?_; rintro e w2 ⟨rfl, rfl⟩))
    all_goals
      go_wp2_with fail
      go_meet
      refine ⟨_, _, rfl, rfl, by go_simp, by go_simp, by go_simp, by go_simp, ?_⟩
      repeat (first | exact Below.refl _ _ | refine Below.drew ?_ | refine Below.alloc ?_ (by simp; try omega) _ | refine Below.setCell ?_ (by simp) _ )
  case rest =>
    obtain ⟨b5, b6, rfl, rfl, p0, p1, p2, p3, hB⟩ := hcut
    have k1 := ((Bx.new w 50 #[.slice FA fn fc, .slice BA bn bc, .int .i64 fs, .int .i64 bs, .int .i64 d0, .int .i64 d1]).alloc (.cells #[.int .i64 0, .int .i64 0] 23)).below hB (by omega)
    have k2 := (Bx.at (w.alloc (.cells #[.slice FA fn fc, .slice BA bn bc, .int .i64 fs, .int .i64 bs, .int .i64 d0, .int .i64 d1] 50)) 23 #[.int .i64 0, .int .i64 0] (n := w.heap.size + 1) (by simp)).below hB (by omega)
    obtain ⟨s0, s1, s2, s3, s4, s5, sf, sz⟩ := k1.six
    obtain ⟨r0, r1, rf, rz⟩ := k2.two
    have hfs : fs = 0 ∨ fs = 1 ∨ fs = 2 := by omega
    have hbs : bs = 0 ∨ bs = 1 ∨ bs = 2 := by omega
    clear s0 s1 s2 s3 k1
    have c1 : drLo fs = 0 ∨ drLo fs = 1 := by unfold drLo; split <;> simp
    have c2 : drHi fs = 0 ∨ drHi fs = 1 := by unfold drHi; split <;> simp
    have c3 : drLo bs = 0 ∨ drLo bs = 1 := by unfold drLo; split <;> simp
    have c4 : drHi bs = 0 ∨ drHi bs = 1 := by unfold drHi; split <;> simp
    have hlo : dsLo fs bs d0 d1 = min ((drLo bs - drHi fs) * d0) ((drLo bs - drHi fs) * d1) := rfl
    have hhi : dsHi fs bs d0 d1 = max ((drHi bs - drLo fs) * d0) ((drHi bs - drLo fs) * d1) := rfl
    generalize drLo fs = x1 at *
    generalize drHi fs = x2 at *
    generalize drLo bs = x3 at *
    generalize drHi bs = x4 at *
    have HLO := Lib.hid hlo
    have HHI := Lib.hid hhi
    clear hlo hhi hfs hbs
    rcases c1 with rfl | rfl <;> rcases c2 with rfl | rfl <;> rcases c3 with rfl | rfl <;> rcases c4 with rfl | rfl
    all_goals
      go_wp2_with fail
    all_goals
      refine bodyPost_ret (v := .agg #[.int .i64 (dsLo fs bs d0 d1), .int .i64 (dsHi fs bs d0 d1)]) (by rw [HLO.out, HHI.out]; simp [results, Try.results71, go_sem, r0, r1, World.cell?_setCell_same', World.cell?_setCell_other, World.cell?_alloc_past, rz] <;> omega) rfl ⟨rfl, ?_⟩
      refine Below.trans (((Below.refl _ _).alloc (Nat.le_refl _) (.cells #[.slice FA fn fc, .slice BA bn bc, .int .i64 fs, .int .i64 bs, .int .i64 d0, .int .i64 d1] 50)).alloc (by simp) (.cells #[.int .i64 0, .int .i64 0] 23)) (Below.trans (hB.mono (by omega)) ?_)
      repeat (first | exact Below.refl _ _ | refine Below.alloc ?_ (by simp <;> omega) _ | refine Below.setCell ?_ (by simp) _)
end Go.Proofs.Ytgbogdckmfencaa
