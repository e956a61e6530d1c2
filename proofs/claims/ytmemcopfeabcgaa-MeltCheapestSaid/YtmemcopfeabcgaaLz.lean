/- Boxes of blends: melt.box.isOne, cut, middle, after, blends; wholeBox. -/
import Derived.Test.YtmemcopfeabcgaaLx
import Derived.DeepKeys
set_option linter.unusedSimpArgs false
set_option linter.unusedVariables false
namespace Go.Proofs.Ytmemcopfeabcgaa
open Go Go.RowKit
theorem lit_wf {n : Int} (h : 0 ≤ n ∧ n ≤ 6) : (Lit.int .i64 n).wf = true := by
  have h1 : IntKind.i64.min = -9223372036854775808 := by kernel_rfl
  have h2 : IntKind.i64.max = 9223372036854775807 := by kernel_rfl
  show (decide (IntKind.i64.min ≤ n) && decide (n ≤ IntKind.i64.max)) = true
  rw [h1, h2]
  simp
  omega
theorem kl3 {d : Nat} {n : Int} (h : 0 ≤ n ∧ n ≤ 6) : Try.prog.keyLits (d + 1) 3 [.int .i64 n] = some [.int .i64 n] := by
  simp [Program.keyLits, Try.underlying3, lit_wf h]
theorem kl39 {d : Nat} {a b : Int} (ha : 0 ≤ a ∧ a ≤ 6) (hb : 0 ≤ b ∧ b ≤ 6) : Try.prog.keyLits (d + 1 + 1) 39 [.int .i64 a, .int .i64 b] = some [.int .i64 a, .int .i64 b] := by
  have hc : Try.prog.cellsOf 39 = 2 := by kernel_rfl
  have h3 : Try.prog.cellsOf 3 = 1 := by kernel_rfl
  unfold Program.keyLits
  simp only [Try.underlying39]
  simp [hc, h3, kl3 ha, kl3 hb]
theorem kl91 {lo hi : Nat → Int} (h : BoxOk lo hi) : Try.prog.keyLits 10 91 [.int .i64 (lo 0), .int .i64 (hi 0), .int .i64 (lo 1), .int .i64 (hi 1), .int .i64 (lo 2), .int .i64 (hi 2), .int .i64 (lo 3), .int .i64 (hi 3)] = some [.int .i64 (lo 0), .int .i64 (hi 0), .int .i64 (lo 1), .int .i64 (hi 1), .int .i64 (lo 2), .int .i64 (hi 2), .int .i64 (lo 3), .int .i64 (hi 3)] := by
  have hc : Try.prog.cellsOf 91 = 8 := by kernel_rfl
  have h3 : Try.prog.cellsOf 39 = 2 := by kernel_rfl
  unfold Program.keyLits
  simp only [Try.underlying91]
  simp [hc, h3, List.range, List.range.loop, kl39 (h.six _) (h.six2 _)]
theorem box_eq (lo hi : Nat → Int) (h : BoxOk lo hi) (w : World) : (Op.equalIn 10000 91 (.agg (xarr lo hi)) (.agg (xarr lo lo))).run Try.prog w = .ok (one4 lo hi) w := by
  rw [xarr_def, xarr_def]
  have h := run_equalIn_deep (P := Try.prog) 9990 10 91 (by kernel_rfl) w 10 10 (.agg #[.int .i64 (lo 0), .int .i64 (hi 0), .int .i64 (lo 1), .int .i64 (hi 1), .int .i64 (lo 2), .int .i64 (hi 2), .int .i64 (lo 3), .int .i64 (hi 3)]) (.agg #[.int .i64 (lo 0), .int .i64 (lo 0), .int .i64 (lo 1), .int .i64 (lo 1), .int .i64 (lo 2), .int .i64 (lo 2), .int .i64 (lo 3), .int .i64 (lo 3)]) [.int .i64 (lo 0), .int .i64 (hi 0), .int .i64 (lo 1), .int .i64 (hi 1), .int .i64 (lo 2), .int .i64 (hi 2), .int .i64 (lo 3), .int .i64 (hi 3)] [.int .i64 (lo 0), .int .i64 (lo 0), .int .i64 (lo 1), .int .i64 (lo 1), .int .i64 (lo 2), .int .i64 (lo 2), .int .i64 (lo 3), .int .i64 (lo 3)] (by kernel_rfl) (by kernel_rfl) (kl91 h) (kl91 ⟨h.six, h.six, fun _ _ => Int.le_refl _⟩)
  obtain ⟨r, h1, h2⟩ := h
  have : r = one4 lo hi := by
    rw [Bool.eq_iff_iff, h2]
    simp [one4]
    omega
  rw [← this]
  exact h1
set_option maxRecDepth 100000 in
set_option maxHeartbeats 2000000 in
theorem isOne_any (lo hi : Nat → Int) (w : World) (h : BoxOk lo hi) :
    Calls Try.prog 98 #[.agg (xarr lo hi)] w fun e w' => e = .returned (.bool (one4 lo hi)) ∧ Below w.heap.size w w' := by
  have HB := Lib.hid h
  clear h
  have K1 := Bx.new w 91 (xarr lo hi)
  have B0 := (Below.refl w.heap.size w).alloc (Nat.le_refl _) (.cells (xarr lo hi) 91)
  obtain ⟨p0, p1, p2, p3, p4, p5, p6, p7, pf, pz⟩ := K1.xarr
  go_enter Try.func98, Try.ntmps98
  go_wp2_with fail
  obtain ⟨w1, hw1⟩ : ∃ w1, w.alloc (.cells (xarr lo hi) 91) = w1 := ⟨_, rfl⟩
  rw [hw1] at p0 p1 p2 p3 p4 p5 p6 p7 pf pz B0 ⊢
  refine AnyG.startC (by kernel_rfl) ?_
  refine AnyG.enter (fun w' : World => Below w1.heap.size w1 w') (fun i => true) ?_
  have hS : (fun w' : World => Below w1.heap.size w1 w') (World.drew _) := (Below.refl _ _).drew
  refine AnyG.takeC (i := 0) (v := ?_) rfl (by kernel_rfl) (fun _ _ _ h => h) rfl ?_ hS ?_
  rotate_left
  · (intro w' hSw; (try dsimp only at hSw); have p0 := cellC hSw p0; have p1 := cellC hSw p1; have p2 := cellC hSw p2; have p3 := cellC hSw p3; have p4 := cellC hSw p4; have p5 := cellC hSw p5; have p6 := cellC hSw p6; have p7 := cellC hSw p7; go_simp; try with_reducible rfl)
  try simp only [Act.put, List.getElem_toArray, List.getElem_cons_succ, List.getElem_cons_zero, List.setIfInBounds_toArray, List.set_cons_zero, List.set_cons_succ]
  refine AnyG.takeC (i := 1) (v := ?_) rfl (by kernel_rfl) (fun _ _ _ h => h) rfl ?_ hS ?_
  rotate_left
  · (intro w' hSw; (try dsimp only at hSw); have p0 := cellC hSw p0; have p1 := cellC hSw p1; have p2 := cellC hSw p2; have p3 := cellC hSw p3; have p4 := cellC hSw p4; have p5 := cellC hSw p5; have p6 := cellC hSw p6; have p7 := cellC hSw p7; go_simp; try with_reducible rfl)
  try simp only [Act.put, List.getElem_toArray, List.getElem_cons_succ, List.getElem_cons_zero, List.setIfInBounds_toArray, List.set_cons_zero, List.set_cons_succ]
  refine AnyG.one (i := 2) (by kernel_rfl) rfl rfl ?_
  go_simp
  rw [← xarr_def lo hi]
  refine (least_any lo hi _).mono ?_
  rintro e2 y2 ⟨rfl, hq2⟩
  have hT := hS.trans (hq2.mono hS.size)
  clear hS
  have hS := hT
  clear hT
  refine Onward.on hS (fun hS2 => ?_)
  clear hS
  have hS := hS2
  clear hS2
  try simp only [Act.put, List.getElem_toArray, List.getElem_cons_succ, List.getElem_cons_zero, List.setIfInBounds_toArray, List.set_cons_zero, List.set_cons_succ]
  refine AnyG.one (i := 3) (by kernel_rfl) rfl rfl ?_
  go_simp
  refine (only_any lo _).mono ?_
  rintro e3 y3 ⟨rfl, hq3⟩
  have hT := hS.trans (hq3.mono hS.size)
  clear hS
  have hS := hT
  clear hT
  refine Onward.on hS (fun hS2 => ?_)
  clear hS
  have hS := hS2
  clear hS2
  try simp only [Act.put, List.getElem_toArray, List.getElem_cons_succ, List.getElem_cons_zero, List.setIfInBounds_toArray, List.set_cons_zero, List.set_cons_succ]
  refine AnyG.takeC (i := 4) (v := ?_) rfl (by kernel_rfl) (fun _ _ _ h => h) rfl ?_ hS ?_
  rotate_left
  · (intro w' hSw; (try dsimp only at hSw); have hq := box_eq lo hi HB.out w'; go_simp; try with_reducible rfl)
  try simp only [Act.put, List.getElem_toArray, List.getElem_cons_succ, List.getElem_cons_zero, List.setIfInBounds_toArray, List.set_cons_zero, List.set_cons_succ]
  refine AnyG.takeC (i := 5) (v := ?_) rfl (by kernel_rfl) (fun _ _ _ h => h) rfl ?_ hS ?_
  rotate_left
  · (intro w' hSw; (try dsimp only at hSw); go_simp; try with_reducible rfl)
  try simp only [Act.put, List.getElem_toArray, List.getElem_cons_succ, List.getElem_cons_zero, List.setIfInBounds_toArray, List.set_cons_zero, List.set_cons_succ]
  refine AnyG.done (by kernel_rfl) ?_ _
  go_simp
  go_wp2_with fail
  go_ret
  exact ⟨rfl, B0.trans (hS.mono B0.size)⟩
end Go.Proofs.Ytmemcopfeabcgaa
