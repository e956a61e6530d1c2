/- The ranges of a feed. -/
import Derived.Test.YtgbogdckmfencaaFe2
set_option linter.unusedSimpArgs false
set_option linter.unusedVariables false
namespace Go.Proofs.Ytgbogdckmfencaa
open Go.RowKit

theorem bx3 {x y z : Int} (P : Int → Prop) (h1 : P x) (h2 : P y) (h3 : P z) : ∀ i, i < 3 → ∃ q, (#[Value.int .i64 x, .int .i64 y, .int .i64 z] : Array Value)[i]? = some (.int .i64 q) ∧ P q := by
  intro i hi
  match i, hi with
  | 0, _ => exact ⟨x, rfl, h1⟩
  | 1, _ => exact ⟨y, rfl, h2⟩
  | 2, _ => exact ⟨z, rfl, h3⟩
set_option maxRecDepth 100000 in
set_option maxHeartbeats 2000000 in
theorem range_any (g : Nat) (lo hi : Int) (w : World) (h : Fd g w) (h1 : -1000000 ≤ lo) (h2 : lo ≤ hi) (h3 : hi ≤ 1000000) : Calls Try.prog 27 #[.pointer (some ⟨g, 0, none⟩), .int .i64 lo, .int .i64 hi] w fun e w' => (∃ a b : Int, e = .returned (.agg #[.int .i64 a, .int .i64 b]) ∧ lo ≤ a ∧ a ≤ b ∧ b ≤ hi) ∧ Fd g w' ∧ w.grownBy w' (some g) := by
  have hgl := h.lt
  have HG0 := Lib.hid (h.alloc (.cells #[.int .i64 0, .int .i64 0] 23))
  have GR0 := Lib.hid (grown_alloc (grown_refl w (some g)) (.cells #[.int .i64 0, .int .i64 0] 23))
  have K0 := Lib.hid (Bx.new w 23 #[.int .i64 0, .int .i64 0])
  go_enter Try.func27, Try.ntmps27
  go_wp2_with (first | (go_at_call 49; first | (have _t := hf2; clear _t; refine (between_any g a hi _ hf2 (by omega) (by omega) (by omega) (by omega)).mono ?_; rintro e w3 ⟨⟨c, rfl, hc1, hc2⟩, hf3, hg3⟩; have gr3 := grown_trans gr2 hg3; have k3 := k2.grown hg3 (by simp; omega)) | (refine (between_any g lo hi _ HG0.out (by omega) (by omega) (by omega) (by omega)).mono ?_; rintro e w1 ⟨⟨a, rfl, ha1, ha2⟩, hf1, hg1⟩; have gr1 := grown_trans GR0.out hg1; have k1 := K0.out.grown hg1 (by simp; omega))) | (go_at_call 47; refine (below_any g _ _ hf1 (by omega) (by omega)).mono ?_; rintro e w2 ⟨⟨d, rfl, hd1, hd2⟩, hf2, hg2⟩; have gr2 := grown_trans gr1 hg2; have k2 := k1.grown hg2 (by simp; omega)) | (go_at_call 40; have hl3 := hf3.lt; refine (either_any g _ 3 _ (fun r => a ≤ r ∧ r ≤ hi) _ (hf3.alloc _) (Bx.new _ _ _) (by omega) (by omega) (by omega) (bx3 _ ⟨by omega, by omega⟩ ⟨by omega, by omega⟩ ⟨by omega, by omega⟩)).mono ?_; rintro e w4 ⟨⟨r, rfl, hr1, hr2⟩, hf4, hg4⟩; have gr4 := grown_trans (grown_alloc gr3 _) hg4; have k4 := (k3.alloc _).grown hg4 (by simp; omega); obtain ⟨c0, c1, cf, cz⟩ := k4.two))
  all_goals refine bodyPost_ret (v := .agg #[.int .i64 a, .int .i64 r]) (by simp [results, Try.results27, go_sem, c0, c1, World.cell?_setCell_same', World.cell?_setCell_other]) rfl ⟨⟨a, r, rfl, by omega, by omega, by omega⟩, (hf4.far (by simp; omega) _).far (by simp; omega) _, grown_new (grown_new gr4 (by omega) _) (by omega) _⟩
set_option maxHeartbeats 2000000 in
theorem either2_any (g : Nat) (a b c d : Int) (w : World) (h : Fd g w) : Calls Try.prog 55 #[.pointer (some ⟨g, 0, none⟩), .agg #[.int .i64 a, .int .i64 b], .agg #[.int .i64 c, .int .i64 d]] w fun e w' => (e = .returned (.agg #[.int .i64 a, .int .i64 b]) ∨ e = .returned (.agg #[.int .i64 c, .int .i64 d])) ∧ Fd g w' ∧ w.grownBy w' (some g) := by
  have hgl := h.lt
  have HG0 := Lib.hid (((h.alloc (.cells #[.int .i64 a, .int .i64 b] 23)).alloc (.cells #[.int .i64 c, .int .i64 d] 23)).alloc (.cells #[.int .i64 0, .int .i64 0] 23))
  have GR0 := Lib.hid (grown_alloc (grown_alloc (grown_alloc (grown_refl w (some g)) (.cells #[.int .i64 a, .int .i64 b] 23)) (.cells #[.int .i64 c, .int .i64 d] 23)) (.cells #[.int .i64 0, .int .i64 0] 23))
  have KA := Lib.hid (((Bx.new w 23 #[.int .i64 a, .int .i64 b]).alloc (.cells #[.int .i64 c, .int .i64 d] 23)).alloc (.cells #[.int .i64 0, .int .i64 0] 23))
  have KB := Lib.hid ((Bx.at (w.alloc (.cells #[.int .i64 a, .int .i64 b] 23)) 23 #[.int .i64 c, .int .i64 d] (n := w.heap.size + 1) (by simp)).alloc (.cells #[.int .i64 0, .int .i64 0] 23))
  have KC := Lib.hid (Bx.at ((w.alloc (.cells #[.int .i64 a, .int .i64 b] 23)).alloc (.cells #[.int .i64 c, .int .i64 d] 23)) 23 #[.int .i64 0, .int .i64 0] (n := w.heap.size + 1 + 1) (by simp))
  go_enter Try.func55, Try.ntmps55
  go_wp2_with (go_at_call 37; refine (often_any g _ _ _ HG0.out (by omega) (by omega)).mono ?_; rintro e w1 ⟨⟨q, rfl⟩, hf1, hg1⟩; have gr1 := grown_trans GR0.out hg1; have ka := KA.out.grown hg1 (by simp; omega); have kb := KB.out.grown hg1 (by simp; omega); have kc := KC.out.grown hg1 (by simp; omega); obtain ⟨a0, a1, af, az⟩ := ka.two; obtain ⟨b0, b1, bf, bz⟩ := kb.two; obtain ⟨c0, c1, cf, cz⟩ := kc.two)
  · refine bodyPost_ret (v := .agg #[.int .i64 a, .int .i64 b]) (by simp [results, Try.results55, go_sem, c0, c1, World.cell?_setCell_same', World.cell?_setCell_other]) rfl ⟨.inl rfl, (hf1.far (by simp; omega) _).far (by simp; omega) _, grown_new (grown_new gr1 (by omega) _) (by omega) _⟩
  · refine bodyPost_ret (v := .agg #[.int .i64 c, .int .i64 d]) (by simp [results, Try.results55, go_sem, c0, c1, World.cell?_setCell_same', World.cell?_setCell_other]) rfl ⟨.inr rfl, (hf1.far (by simp; omega) _).far (by simp; omega) _, grown_new (grown_new gr1 (by omega) _) (by omega) _⟩
end Go.Proofs.Ytgbogdckmfencaa
