/- ends: the least and the greatest zero that an event may have. -/
import Derived.Test.YtgbogdckmfencaaRfA
set_option linter.unusedSimpArgs false
set_option linter.unusedVariables false
namespace Go.Proofs.Ytgbogdckmfencaa
open Go Go.RowKit
/-- Between two rounds of ends' loop. -/
structure EI (w : World) (b : Nat) (FA : Option Addr) (n FC : Nat) (q : Nat → Nat) (f : Nat → Nat → Bool) (wr : World) : Prop where
  k2 : Bx wr w.heap.size 96 #[.slice FA n FC]
  k4 : Bx wr (w.heap.size + 1) 23 #[.int .i64 0, .int .i64 0]
  gr : Grid wr b FA n q f
  hb : Below w.heap.size w wr
theorem EI.bel {w : World} {b : Nat} {FA : Option Addr} {n FC : Nat} {q : Nat → Nat} {f : Nat → Nat → Bool} {wr x : World} (I : EI w b FA n FC q f wr) (h : Below wr.heap.size wr x) : EI w b FA n FC q f x := ⟨I.k2.call h, I.k4.call h, I.gr.bel h, I.hb.trans (h.mono I.hb.size)⟩
theorem EI.set_ {w : World} {b : Nat} {FA : Option Addr} {n FC : Nat} {q : Nat → Nat} {f : Nat → Nat → Bool} {wr : World} {r : Nat} {cs : Array Value} (I : EI w b FA n FC q f wr) (k : Bx wr r 23 cs) (hr : w.heap.size + 1 < r) (j : Nat) (u : Value) : EI w b FA n FC q f (wr.setCell ⟨r, j, none⟩ u) :=
  ⟨I.k2.far (by show w.heap.size ≠ r; omega) u, I.k4.far (by show w.heap.size + 1 ≠ r; omega) u, I.gr.far k (by decide) (by decide) j u, I.hb.setCell (p := ⟨r, j, none⟩) (by show w.heap.size ≤ r; omega) u⟩
def loE (a z : Int) : Int := if a < z then a else 200
def hiE (a c z : Int) : Int := if a < z then min (z - 1) c else -200
set_option maxRecDepth 100000 in
set_option maxHeartbeats 4000000 in
theorem ends_any (b : Nat) (FA : Option Addr) (n FC : Nat) (q : Nat → Nat) (f : Nat → Nat → Bool) (i : Nat) (a c : Int) (w : World) (hG : Grid w b FA n q f) (hn : n ≤ 14) (hi : i < n) (h1 : -200 ≤ a) (h2 : a ≤ c) (h3 : c ≤ 200) (hf : ∀ z : Int, mayB f i z = decide (a ≤ z ∧ z ≤ c)) :
    Calls Try.prog 60 #[.agg #[.slice FA n FC], .int .i64 (i : Int)] w fun e w' => e = .returned (.agg #[.int .i64 a, .int .i64 c]) ∧ Below w.heap.size w w' := by
  have HF := Lib.hid hf
  clear hf
  have k2 := ((Bx.new w 96 #[.slice FA n FC]).alloc (.cells #[.int .i64 0, .int .i64 0] 23)).alloc (.cells #[.int .i64 200, .int .i64 (-200)] 23)
  have k4 := (Bx.at (w.alloc (.cells #[.slice FA n FC] 96)) 23 #[.int .i64 0, .int .i64 0] (n := w.heap.size + 1) (by simp)).alloc (.cells #[.int .i64 200, .int .i64 (-200)] 23)
  have k5 := Bx.at ((w.alloc (.cells #[.slice FA n FC] 96)).alloc (.cells #[.int .i64 0, .int .i64 0] 23)) 23 #[.int .i64 200, .int .i64 (-200)] (n := w.heap.size + 1 + 1) (by simp)
  have hG2 := ((hG.alloc (.cells #[.slice FA n FC] 96)).alloc (.cells #[.int .i64 0, .int .i64 0] 23)).alloc (.cells #[.int .i64 200, .int .i64 (-200)] 23)
  have hB2 := (((Below.refl w.heap.size w).alloc (Nat.le_refl _) (.cells #[.slice FA n FC] 96)).alloc (by simp) (.cells #[.int .i64 0, .int .i64 0] 23)).alloc (by simp; omega) (.cells #[.int .i64 200, .int .i64 (-200)] 23)
  have H0 := Lib.hid (And.intro (show EI w b FA n FC q f _ from ⟨k2, k4, hG2, hB2⟩) k5)
  clear k2 k4 k5 hG2 hB2 hG
  go_enter Try.func60, Try.ntmps60
  go_wp2_with fail
  go_loopw [6] (fun v6 wr => ∃ (z lo hi : Int), v6 = .int .i64 z ∧ -200 ≤ z ∧ z ≤ 201 ∧ Hid (lo = loE a z) ∧ Hid (hi = hiE a c z) ∧ EI w b FA n FC q f wr ∧ Bx wr (w.heap.size + 1 + 1) 23 #[.int .i64 lo, .int .i64 hi]) (fun v6 _ => (201 - intOf v6).toNat)
  case atStart => exact ⟨-200, 200, -200, rfl, by omega, by omega, Lib.hid (by unfold loE; rw [if_neg (by omega)]), Lib.hid (by unfold hiE; rw [if_neg (by omega)]), H0.out.1, H0.out.2⟩
  case round =>
    clear H0
    obtain ⟨w3, rfl⟩ : ∃ x, x = wr := ⟨_, rfl⟩
    obtain ⟨z, lo, hi', rfl, hz1, hz2, hlo, hhi, I, k5⟩ := hrel
    obtain ⟨a0, af, az⟩ := I.k2.one
    by_cases hz : z ≤ 200
    · have hmay := may_any b FA n FC q f i z w3 I.gr hn hi (by omega) (by omega)
      rw [HF.out z] at hmay
      have HM := Lib.hid hmay
      clear hmay
      have hlo2 : loE a (z + 1) = if a ≤ z then a else 200 := by unfold loE; split <;> split <;> omega
      have hhi2 : hiE a c (z + 1) = if a ≤ z then min z c else -200 := by unfold hiE; split <;> split <;> omega
      have HL2 := Lib.hid (And.intro hlo2 hhi2)
      clear hlo2 hhi2
      by_cases hin : a ≤ z ∧ z ≤ c
      · have hb0 : decide (a ≤ z ∧ z ≤ c) = true := decide_eq_true hin
        have hlv : lo = 200 ∧ z = a ∨ lo = a ∧ a < z := by
          have h := hlo.out
          unfold loE at h
          split at h <;> omega
        have hhv : hi' = -200 ∧ z = a ∨ hi' = z - 1 ∧ a < z := by
          have h := hhi.out
          unfold hiE at h
          split at h <;> omega
        have HV := Lib.hid (And.intro hlv hhv)
        clear hlv hhv
        by_cases c1 : z < lo
        · by_cases c2 : hi' < z
          · obtain ⟨m0, m1, mf, mz⟩ := k5.two
            go_wp2_with (first | (go_at_call 85; refine HM.out.mono ?_; rintro e y1 ⟨rfl, hq⟩; rw [hb0]; clear m0 m1 mf mz; have k5y := k5.call hq; obtain ⟨m0, m1, mf, mz⟩ := k5y.two) | fail)
            go_roundw
            case rel =>
              have k5z : Bx ((y1.setCell ⟨w.heap.size + 1 + 1, 0, none⟩ (.int .i64 z)).setCell ⟨w.heap.size + 1 + 1, 1, none⟩ (.int .i64 z)) (w.heap.size + 1 + 1) 23 #[.int .i64 z, .int .i64 z] := by have := (k5y.set_ 0 (.int .i64 z)).set_ 1 (.int .i64 z); simpa using this
              have I2 := ((I.bel hq).set_ k5y (by omega) 0 (.int .i64 z)).set_ (k5y.set_ 0 (.int .i64 z)) (by omega) 1 (.int .i64 z)
              refine ⟨z + 1, z, z, rfl, by omega, by omega, Lib.hid ?_, Lib.hid ?_, I2, k5z⟩
              · rw [HL2.out.1, if_pos hin.1]; have := HV.out; omega
              · rw [HL2.out.2, if_pos hin.1]; have := HV.out; omega
            case measure => simp [intOf]; omega
          · obtain ⟨m0, m1, mf, mz⟩ := k5.two
            go_wp2_with (first | (go_at_call 85; refine HM.out.mono ?_; rintro e y1 ⟨rfl, hq⟩; rw [hb0]; clear m0 m1 mf mz; have k5y := k5.call hq; obtain ⟨m0, m1, mf, mz⟩ := k5y.two) | fail)
            go_roundw
            case rel =>
              have k5z : Bx ((y1.setCell ⟨w.heap.size + 1 + 1, 0, none⟩ (.int .i64 z)).setCell ⟨w.heap.size + 1 + 1, 1, none⟩ (.int .i64 hi')) (w.heap.size + 1 + 1) 23 #[.int .i64 z, .int .i64 hi'] := by have := (k5y.set_ 0 (.int .i64 z)).set_ 1 (.int .i64 hi'); simpa using this
              have I2 := ((I.bel hq).set_ k5y (by omega) 0 (.int .i64 z)).set_ (k5y.set_ 0 (.int .i64 z)) (by omega) 1 (.int .i64 hi')
              refine ⟨z + 1, z, hi', rfl, by omega, by omega, Lib.hid ?_, Lib.hid ?_, I2, k5z⟩
              · rw [HL2.out.1, if_pos hin.1]; have := HV.out; omega
              · rw [HL2.out.2, if_pos hin.1]; have := HV.out; omega
            case measure => simp [intOf]; omega
        · by_cases c2 : hi' < z
          · obtain ⟨m0, m1, mf, mz⟩ := k5.two
            go_wp2_with (first | (go_at_call 85; refine HM.out.mono ?_; rintro e y1 ⟨rfl, hq⟩; rw [hb0]; clear m0 m1 mf mz; have k5y := k5.call hq; obtain ⟨m0, m1, mf, mz⟩ := k5y.two) | fail)
            go_roundw
            case rel =>
              have k5z : Bx ((y1.setCell ⟨w.heap.size + 1 + 1, 0, none⟩ (.int .i64 lo)).setCell ⟨w.heap.size + 1 + 1, 1, none⟩ (.int .i64 z)) (w.heap.size + 1 + 1) 23 #[.int .i64 lo, .int .i64 z] := by have := (k5y.set_ 0 (.int .i64 lo)).set_ 1 (.int .i64 z); simpa using this
              have I2 := ((I.bel hq).set_ k5y (by omega) 0 (.int .i64 lo)).set_ (k5y.set_ 0 (.int .i64 lo)) (by omega) 1 (.int .i64 z)
              refine ⟨z + 1, lo, z, rfl, by omega, by omega, Lib.hid ?_, Lib.hid ?_, I2, k5z⟩
              · rw [HL2.out.1, if_pos hin.1]; have := HV.out; omega
              · rw [HL2.out.2, if_pos hin.1]; have := HV.out; omega
            case measure => simp [intOf]; omega
          · obtain ⟨m0, m1, mf, mz⟩ := k5.two
            go_wp2_with (first | (go_at_call 85; refine HM.out.mono ?_; rintro e y1 ⟨rfl, hq⟩; rw [hb0]; clear m0 m1 mf mz; have k5y := k5.call hq; obtain ⟨m0, m1, mf, mz⟩ := k5y.two) | fail)
            go_roundw
            case rel =>
              have k5z : Bx ((y1.setCell ⟨w.heap.size + 1 + 1, 0, none⟩ (.int .i64 lo)).setCell ⟨w.heap.size + 1 + 1, 1, none⟩ (.int .i64 hi')) (w.heap.size + 1 + 1) 23 #[.int .i64 lo, .int .i64 hi'] := by have := (k5y.set_ 0 (.int .i64 lo)).set_ 1 (.int .i64 hi'); simpa using this
              have I2 := ((I.bel hq).set_ k5y (by omega) 0 (.int .i64 lo)).set_ (k5y.set_ 0 (.int .i64 lo)) (by omega) 1 (.int .i64 hi')
              refine ⟨z + 1, lo, hi', rfl, by omega, by omega, Lib.hid ?_, Lib.hid ?_, I2, k5z⟩
              · rw [HL2.out.1, if_pos hin.1]; have := HV.out; omega
              · rw [HL2.out.2, if_pos hin.1]; have := HV.out; omega
            case measure => simp [intOf]; omega
      · have hb0 : decide (a ≤ z ∧ z ≤ c) = false := decide_eq_false hin
        go_wp2_with (first | (go_at_call 85; refine HM.out.mono ?_; rintro e y1 ⟨rfl, hq⟩; rw [hb0]) | fail)
        go_roundw
        case rel =>
          refine ⟨z + 1, lo, hi', rfl, by omega, by omega, Lib.hid ?_, Lib.hid ?_, I.bel hq, k5.call hq⟩
          · rw [hlo.out]; unfold loE; split <;> split <;> omega
          · rw [hhi.out]; unfold hiE; split <;> split <;> omega
        case measure => simp [intOf]; omega
    · obtain rfl : z = 201 := by omega
      have e1 : lo = a := by rw [hlo.out]; unfold loE; rw [if_pos (by omega)]
      have e2 : hi' = c := by rw [hhi.out]; unfold hiE; rw [if_pos (by omega)]; omega
      subst e1 e2
      obtain ⟨m0, m1, mf, mz⟩ := k5.two
      obtain ⟨d0, d1, df, dz⟩ := I.k4.two
      go_wp2_with fail
      have kz : Bx ((w3.setCell ⟨w.heap.size + 1, 0, none⟩ (.int .i64 lo)).setCell ⟨w.heap.size + 1, 1, none⟩ (.int .i64 hi')) (w.heap.size + 1) 23 #[.int .i64 lo, .int .i64 hi'] := by have := (I.k4.set_ 0 (.int .i64 lo)).set_ 1 (.int .i64 hi'); simpa using this
      obtain ⟨e0, e1, ef, ez⟩ := kz.two
      have hB := (I.hb.setCell (p := ⟨w.heap.size + 1, 0, none⟩) (by simp) (.int .i64 lo)).setCell (p := ⟨w.heap.size + 1, 1, none⟩) (by simp) (.int .i64 hi')
      refine bodyPost_ret (v := .agg #[.int .i64 lo, .int .i64 hi']) (by simp [results, Try.results60, go_sem, e0, e1]) rfl ⟨rfl, hB⟩
end Go.Proofs.Ytgbogdckmfencaa
