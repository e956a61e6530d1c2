/- The examples of the chapter in memory: orders, bounds. -/
import Derived.Test.YtmemcopfeabcgaaEq
set_option linter.unusedSimpArgs false
set_option linter.unusedVariables false
namespace Go.Proofs.Ytmemcopfeabcgaa
open Go Go.RowKit
theorem to_any (a b : Int) (w : World) : Calls Try.prog 83 #[.int .i64 a, .int .i64 b] w fun e w' => e = .returned (.agg #[.int .i64 a, .int .i64 b]) ∧ Below w.heap.size w w' := by
  go_enter Try.func83, Try.ntmps83
  go_wp2
  refine bodyPost_ret (v := .agg #[.int .i64 a, .int .i64 b]) (by simp [results, Try.results83, go_sem]) rfl ⟨rfl, ?_⟩
  repeat (first | exact Below.refl _ _ | refine Below.alloc ?_ (by simp; try omega) _ | refine Below.setCell ?_ (by simp) _ )
theorem bcut_any (a b : Int) (w : World) : Calls Try.prog 54 #[.int .i64 a, .int .i64 b] w fun e w' => e = .returned (.agg #[.int .i64 1, .int .i64 a, .int .i64 b]) ∧ Below w.heap.size w w' := by
  go_enter Try.func54, Try.ntmps54
  go_wp2
  refine bodyPost_ret (v := .agg #[.int .i64 1, .int .i64 a, .int .i64 b]) (by simp [results, Try.results54, go_sem]) rfl ⟨rfl, ?_⟩
  repeat (first | exact Below.refl _ _ | refine Below.alloc ?_ (by simp; try omega) _ | refine Below.setCell ?_ (by simp) _ )
theorem blight_any (w : World) : Calls Try.prog 55 #[] w fun e w' => e = .returned (.agg #[.int .i64 2, .int .i64 0, .int .i64 0]) ∧ Below w.heap.size w w' := by
  go_enter Try.func55, Try.ntmps55
  go_wp2
  refine bodyPost_ret (v := .agg #[.int .i64 2, .int .i64 0, .int .i64 0]) (by simp [results, Try.results55, go_sem]) rfl ⟨rfl, ?_⟩
  repeat (first | exact Below.refl _ _ | refine Below.alloc ?_ (by simp; try omega) _ | refine Below.setCell ?_ (by simp) _ )
theorem bdear_any (w : World) : Calls Try.prog 56 #[] w fun e w' => e = .returned (.agg #[.int .i64 5, .int .i64 0, .int .i64 0]) ∧ Below w.heap.size w w' := by
  go_enter Try.func56, Try.ntmps56
  go_wp2
  refine bodyPost_ret (v := .agg #[.int .i64 5, .int .i64 0, .int .i64 0]) (by simp [results, Try.results56, go_sem]) rfl ⟨rfl, ?_⟩
  repeat (first | exact Below.refl _ _ | refine Below.alloc ?_ (by simp; try omega) _ | refine Below.setCell ?_ (by simp) _ )
set_option maxRecDepth 100000 in
set_option maxHeartbeats 4000000 in
theorem order_any (w : World) : Calls Try.prog 52 #[] w fun e w' => (∃ lb bb, e = .returned (.agg #[.slice (some ⟨lb, 0, none⟩) 2 2, .int .i64 10000, .int .i64 12000, .slice (some ⟨bb, 0, none⟩) 3 3]) ∧ OrdAt w' w'.heap.size (some ⟨lb, 0, none⟩) (some ⟨bb, 0, none⟩) ordO) ∧ Below w.heap.size w w' := by
  have KO := (Bx.new w 27 #[.slice none 0 0, .int .i64 0, .int .i64 0, .slice none 0 0]).alloc (.cells #[.int .i64 400, .int .i64 100] 3)
  have KL := Bx.at (w.alloc (.cells #[.slice none 0 0, .int .i64 0, .int .i64 0, .slice none 0 0] 27)) 3 #[.int .i64 400, .int .i64 100] (n := w.heap.size + 1) (by simp)
  have B0 := ((Below.refl w.heap.size w).alloc (Nat.le_refl _) (.cells #[.slice none 0 0, .int .i64 0, .int .i64 0, .slice none 0 0] 27)).alloc (by simp) (.cells #[.int .i64 400, .int .i64 100] 3)
  go_enter Try.func52, Try.ntmps52
  go_wp2_with (go_at_call 83; first | (have _t := hb5; clear _t; refine (to_any _ _ _).mono ?_; rintro e w6 ⟨rfl, hb6⟩; have ko6 := ko5.call hb6; have kl6 := kl5.call hb6; have h1b := h1.call hb6; have g2b := g2.call hb6; have B6 := B5.trans (hb6.mono B5.size); obtain ⟨o0, o1, o2, o3, of, oz⟩ := ko6.four) | (have _t := hb4; clear _t; refine (to_any _ _ _).mono ?_; rintro e w5 ⟨rfl, hb5⟩; have ko5 := (ko4.alloc (.cells #[.int .i64 500, .int .i64 600, .int .i64 0, .int .i64 20] 39)).call hb5; have kl5 := (kl4.alloc (.cells #[.int .i64 500, .int .i64 600, .int .i64 0, .int .i64 20] 39)).call hb5; have g2 := (Bx.new w4 39 #[.int .i64 500, .int .i64 600, .int .i64 0, .int .i64 20]).call hb5; have h1 := (g1b.alloc (.cells #[.int .i64 500, .int .i64 600, .int .i64 0, .int .i64 20] 39)).call hb5; have B5 := (B4.alloc B4.size (.cells #[.int .i64 500, .int .i64 600, .int .i64 0, .int .i64 20] 39)).trans (hb5.mono (B4.alloc B4.size (.cells #[.int .i64 500, .int .i64 600, .int .i64 0, .int .i64 20] 39)).size)) | (have _t := hb3; clear _t; refine (to_any _ _ _).mono ?_; rintro e w4 ⟨rfl, hb4⟩; have ko4 := ko3.call hb4; have kl4 := kl3.call hb4; have g1b := g1.call hb4; have B4 := B3.trans (hb4.mono B3.size)) | (have _t := hb2; clear _t; refine (to_any _ _ _).mono ?_; rintro e w3 ⟨rfl, hb3⟩; have ko3 := (ko2.alloc (.cells #[.int .i64 300, .int .i64 350, .int .i64 50, .int .i64 60] 39)).call hb3; have kl3 := (kl2.alloc (.cells #[.int .i64 300, .int .i64 350, .int .i64 50, .int .i64 60] 39)).call hb3; have g1 := (Bx.new w2 39 #[.int .i64 300, .int .i64 350, .int .i64 50, .int .i64 60]).call hb3; have B3 := (B2.alloc B2.size (.cells #[.int .i64 300, .int .i64 350, .int .i64 50, .int .i64 60] 39)).trans (hb3.mono (B2.alloc B2.size (.cells #[.int .i64 300, .int .i64 350, .int .i64 50, .int .i64 60] 39)).size)) | (have _t := hb1; clear _t; refine (to_any _ _ _).mono ?_; rintro e w2 ⟨rfl, hb2⟩; have ko2 := ko1.call hb2; have kl2 := kl1.call hb2; have B2 := B1.trans (hb2.mono B1.size)) | (refine (to_any _ _ _).mono ?_; rintro e w1 ⟨rfl, hb1⟩; have ko1 := KO.call hb1; have kl1 := KL.call hb1; have B1 := B0.trans (hb1.mono B0.size)))
  have z2 := ko2.lt
  have z4 := ko4.lt
  have z6 := ko6.lt
  have kl := (((((kl6.far (p := ⟨w.heap.size, 0, none⟩) (by first | (simp; done) | (simp; omega)) (.slice (some ⟨w.heap.size + 1, 0, none⟩) 2 2)).far (p := ⟨w.heap.size, 1, none⟩) (by first | (simp; done) | (simp; omega)) (.int .i64 10000)).far (p := ⟨w.heap.size, 2, none⟩) (by first | (simp; done) | (simp; omega)) (.int .i64 12000)).far (p := ⟨w.heap.size, 3, none⟩) (by first | (simp; done) | (simp; omega)) (.slice (some ⟨w6.heap.size + 1, 0, none⟩) 3 3)).alloc (.cells #[.int .i64 100, .int .i64 100, .int .i64 200, .int .i64 300] 39)).alloc (.cells #[.slice (some ⟨w2.heap.size, 0, none⟩) 2 2, .int .i64 2000, .int .i64 50, .int .i64 4, .slice (some ⟨w4.heap.size, 0, none⟩) 2 2, .int .i64 2000, .int .i64 30, .int .i64 4, .slice (some ⟨w6.heap.size, 0, none⟩) 2 2, .int .i64 1000, .int .i64 20, .int .i64 3] 42)
  have h1c := (((((h1b.far (p := ⟨w.heap.size, 0, none⟩) (by first | (simp; done) | (simp; omega)) (.slice (some ⟨w.heap.size + 1, 0, none⟩) 2 2)).far (p := ⟨w.heap.size, 1, none⟩) (by first | (simp; done) | (simp; omega)) (.int .i64 10000)).far (p := ⟨w.heap.size, 2, none⟩) (by first | (simp; done) | (simp; omega)) (.int .i64 12000)).far (p := ⟨w.heap.size, 3, none⟩) (by first | (simp; done) | (simp; omega)) (.slice (some ⟨w6.heap.size + 1, 0, none⟩) 3 3)).alloc (.cells #[.int .i64 100, .int .i64 100, .int .i64 200, .int .i64 300] 39)).alloc (.cells #[.slice (some ⟨w2.heap.size, 0, none⟩) 2 2, .int .i64 2000, .int .i64 50, .int .i64 4, .slice (some ⟨w4.heap.size, 0, none⟩) 2 2, .int .i64 2000, .int .i64 30, .int .i64 4, .slice (some ⟨w6.heap.size, 0, none⟩) 2 2, .int .i64 1000, .int .i64 20, .int .i64 3] 42)
  have g2c := (((((g2b.far (p := ⟨w.heap.size, 0, none⟩) (by first | (simp; done) | (simp; omega)) (.slice (some ⟨w.heap.size + 1, 0, none⟩) 2 2)).far (p := ⟨w.heap.size, 1, none⟩) (by first | (simp; done) | (simp; omega)) (.int .i64 10000)).far (p := ⟨w.heap.size, 2, none⟩) (by first | (simp; done) | (simp; omega)) (.int .i64 12000)).far (p := ⟨w.heap.size, 3, none⟩) (by first | (simp; done) | (simp; omega)) (.slice (some ⟨w6.heap.size + 1, 0, none⟩) 3 3)).alloc (.cells #[.int .i64 100, .int .i64 100, .int .i64 200, .int .i64 300] 39)).alloc (.cells #[.slice (some ⟨w2.heap.size, 0, none⟩) 2 2, .int .i64 2000, .int .i64 50, .int .i64 4, .slice (some ⟨w4.heap.size, 0, none⟩) 2 2, .int .i64 2000, .int .i64 30, .int .i64 4, .slice (some ⟨w6.heap.size, 0, none⟩) 2 2, .int .i64 1000, .int .i64 20, .int .i64 3] 42)
  have g3 := (Bx.at ((((w6.setCell ⟨w.heap.size, 0, none⟩ (.slice (some ⟨w.heap.size + 1, 0, none⟩) 2 2)).setCell ⟨w.heap.size, 1, none⟩ (.int .i64 10000)).setCell ⟨w.heap.size, 2, none⟩ (.int .i64 12000)).setCell ⟨w.heap.size, 3, none⟩ (.slice (some ⟨w6.heap.size + 1, 0, none⟩) 3 3)) 39 #[.int .i64 100, .int .i64 100, .int .i64 200, .int .i64 300] (n := w6.heap.size) (by simp [World.setCell])).alloc (.cells #[.slice (some ⟨w2.heap.size, 0, none⟩) 2 2, .int .i64 2000, .int .i64 50, .int .i64 4, .slice (some ⟨w4.heap.size, 0, none⟩) 2 2, .int .i64 2000, .int .i64 30, .int .i64 4, .slice (some ⟨w6.heap.size, 0, none⟩) 2 2, .int .i64 1000, .int .i64 20, .int .i64 3] 42)
  have kb := Bx.at (((((w6.setCell ⟨w.heap.size, 0, none⟩ (.slice (some ⟨w.heap.size + 1, 0, none⟩) 2 2)).setCell ⟨w.heap.size, 1, none⟩ (.int .i64 10000)).setCell ⟨w.heap.size, 2, none⟩ (.int .i64 12000)).setCell ⟨w.heap.size, 3, none⟩ (.slice (some ⟨w6.heap.size + 1, 0, none⟩) 3 3)).alloc (.cells #[.int .i64 100, .int .i64 100, .int .i64 200, .int .i64 300] 39)) 42 #[.slice (some ⟨w2.heap.size, 0, none⟩) 2 2, .int .i64 2000, .int .i64 50, .int .i64 4, .slice (some ⟨w4.heap.size, 0, none⟩) 2 2, .int .i64 2000, .int .i64 30, .int .i64 4, .slice (some ⟨w6.heap.size, 0, none⟩) 2 2, .int .i64 1000, .int .i64 20, .int .i64 3] (n := w6.heap.size + 1) (by simp [World.setCell])
  have ko := (((((ko6.set_ 0 (.slice (some ⟨w.heap.size + 1, 0, none⟩) 2 2)).set_ 1 (.int .i64 10000)).set_ 2 (.int .i64 12000)).set_ 3 (.slice (some ⟨w6.heap.size + 1, 0, none⟩) 3 3)).alloc (.cells #[.int .i64 100, .int .i64 100, .int .i64 200, .int .i64 300] 39)).alloc (.cells #[.slice (some ⟨w2.heap.size, 0, none⟩) 2 2, .int .i64 2000, .int .i64 50, .int .i64 4, .slice (some ⟨w4.heap.size, 0, none⟩) 2 2, .int .i64 2000, .int .i64 30, .int .i64 4, .slice (some ⟨w6.heap.size, 0, none⟩) 2 2, .int .i64 1000, .int .i64 20, .int .i64 3] 42)
  have B7 := (((((B6.setCell (p := ⟨w.heap.size, 0, none⟩) (by simp) (.slice (some ⟨w.heap.size + 1, 0, none⟩) 2 2)).setCell (p := ⟨w.heap.size, 1, none⟩) (by simp) (.int .i64 10000)).setCell (p := ⟨w.heap.size, 2, none⟩) (by simp) (.int .i64 12000)).setCell (p := ⟨w.heap.size, 3, none⟩) (by simp) (.slice (some ⟨w6.heap.size + 1, 0, none⟩) 3 3)).alloc (by have := B6.size; simpa [World.setCell] using this) (.cells #[.int .i64 100, .int .i64 100, .int .i64 200, .int .i64 300] 39)).alloc (by have := B6.size; simp [World.setCell]; omega) (.cells #[.slice (some ⟨w2.heap.size, 0, none⟩) 2 2, .int .i64 2000, .int .i64 50, .int .i64 4, .slice (some ⟨w4.heap.size, 0, none⟩) 2 2, .int .i64 2000, .int .i64 30, .int .i64 4, .slice (some ⟨w6.heap.size, 0, none⟩) 2 2, .int .i64 1000, .int .i64 20, .int .i64 3] 42)
  obtain ⟨W9, hW9⟩ : ∃ W9, (((((w6.setCell ⟨w.heap.size, 0, none⟩ (.slice (some ⟨w.heap.size + 1, 0, none⟩) 2 2)).setCell ⟨w.heap.size, 1, none⟩ (.int .i64 10000)).setCell ⟨w.heap.size, 2, none⟩ (.int .i64 12000)).setCell ⟨w.heap.size, 3, none⟩ (.slice (some ⟨w6.heap.size + 1, 0, none⟩) 3 3)).alloc (.cells #[.int .i64 100, .int .i64 100, .int .i64 200, .int .i64 300] 39)).alloc (.cells #[.slice (some ⟨w2.heap.size, 0, none⟩) 2 2, .int .i64 2000, .int .i64 50, .int .i64 4, .slice (some ⟨w4.heap.size, 0, none⟩) 2 2, .int .i64 2000, .int .i64 30, .int .i64 4, .slice (some ⟨w6.heap.size, 0, none⟩) 2 2, .int .i64 1000, .int .i64 20, .int .i64 3] 42) = W9 := ⟨_, rfl⟩
  rw [hW9] at kl h1c g2c g3 kb ko B7 ⊢
  refine bodyPost_ret (v := .agg #[.slice (some ⟨w.heap.size + 1, 0, none⟩) 2 2, .int .i64 10000, .int .i64 12000, .slice (some ⟨w6.heap.size + 1, 0, none⟩) 3 3]) (results_row1 (g := w.heap.size) (t := 27) rfl rfl (by simpa using ko) Try.underlying27 rfl (by kernel_rfl)) rfl ⟨⟨_, _, rfl, ?_, ?_⟩, B7⟩
  · exact Sl.of_flat kl (by decide) rfl
  · refine ⟨[[.slice (some ⟨w2.heap.size, 0, none⟩) 2 2, .int .i64 2000, .int .i64 50, .int .i64 4], [.slice (some ⟨w4.heap.size, 0, none⟩) 2 2, .int .i64 2000, .int .i64 30, .int .i64 4], [.slice (some ⟨w6.heap.size, 0, none⟩) 2 2, .int .i64 1000, .int .i64 20, .int .i64 3]], Sl.of_flat kb (by intro r hr; simp at hr; rcases hr with rfl | rfl | rfl <;> rfl) rfl, rfl, fun j r b hr hb => ?_⟩
    have hj : j < 3 := (List.getElem?_eq_some_iff.1 hr).1
    rcases (show j = 0 ∨ j = 1 ∨ j = 2 by omega) with rfl | rfl | rfl
    · simp [ordO] at hr hb
      subst hr hb
      exact ⟨_, _, rfl, Sl.of_flat h1c (by decide) rfl⟩
    · simp [ordO] at hr hb
      subst hr hb
      exact ⟨_, _, rfl, Sl.of_flat g2c (by decide) rfl⟩
    · simp [ordO] at hr hb
      subst hr hb
      exact ⟨_, _, rfl, Sl.of_flat g3 (by decide) rfl⟩
set_option maxRecDepth 100000 in
theorem plain_any (k : Int) (w : World) : Calls Try.prog 53 #[.int .i64 k] w fun e w' => (∃ bb, e = .returned (.agg #[.slice none 0 0, .int .i64 k, .int .i64 k, .slice (some ⟨bb, 0, none⟩) 1 1]) ∧ OrdAt w' w'.heap.size none (some ⟨bb, 0, none⟩) (ordP k)) ∧ Below w.heap.size w w' := by
  go_enter Try.func53, Try.ntmps53
  go_wp2_with fail
  have ko := (Bx.new w 27 #[.slice none 0 0, .int .i64 k, .int .i64 k, .slice (some ⟨w.heap.size + 1, 0, none⟩) 1 1]).alloc (.cells #[.slice none 0 0, .int .i64 1, .int .i64 5, .int .i64 4] 42)
  have kb := Bx.at (w.alloc (.cells #[.slice none 0 0, .int .i64 k, .int .i64 k, .slice (some ⟨w.heap.size + 1, 0, none⟩) 1 1] 27)) 42 #[.slice none 0 0, .int .i64 1, .int .i64 5, .int .i64 4] (n := w.heap.size + 1) (by simp)
  have B7 := ((Below.refl w.heap.size w).alloc (Nat.le_refl _) (.cells #[.slice none 0 0, .int .i64 k, .int .i64 k, .slice (some ⟨w.heap.size + 1, 0, none⟩) 1 1] 27)).alloc (by simp) (.cells #[.slice none 0 0, .int .i64 1, .int .i64 5, .int .i64 4] 42)
  refine bodyPost_ret (v := .agg #[.slice none 0 0, .int .i64 k, .int .i64 k, .slice (some ⟨w.heap.size + 1, 0, none⟩) 1 1]) (results_row1 (g := w.heap.size) (t := 27) rfl rfl ko Try.underlying27 rfl (by kernel_rfl)) rfl ⟨⟨_, rfl, ?_, ?_⟩, B7⟩
  · exact Sl.nil _ _ _ _
  · refine ⟨[[.slice none 0 0, .int .i64 1, .int .i64 5, .int .i64 4]], Sl.of_flat kb (by intro r hr; simp at hr; subst hr; rfl) rfl, rfl, fun j r b hr hb => ?_⟩
    have hj : j < 1 := (List.getElem?_eq_some_iff.1 hr).1
    obtain rfl : j = 0 := by omega
    simp [ordP] at hr hb
    subst hr hb
    exact ⟨none, 0, rfl, Sl.nil _ _ _ _⟩
end Go.Proofs.Ytmemcopfeabcgaa
