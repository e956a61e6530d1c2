/- Boxes of blends: melt.box.cut, middle, after, blends; wholeBox. -/
import Derived.Test.YtmemcopfeabcgaaLz
set_option linter.unusedSimpArgs false
set_option linter.unusedVariables false
namespace Go.Proofs.Ytmemcopfeabcgaa
open Go Go.RowKit
theorem results_two {P : Program} {fn : Func} {p q : Tmp} {ty tz t u : TypeId} {tmps : Array Value} {w : World} {g k : Nat} {cs ds : Array Value} {d f : TypeDesc} (h : fn.results = #[.cell p ty, .cell q tz]) (hp : tmps.getD p undef = .pointer (some ⟨g, 0, none⟩)) (hq : tmps.getD q undef = .pointer (some ⟨k, 0, none⟩)) (hb : Bx w g t cs) (hk : Bx w k u ds)
    (hu : P.underlying ty = some d) (hd : (match d with | .struct _ | .array _ _ => true | _ => false) = true) (hi : (P.info? ty).map (·.size) = some cs.size) (hv : P.underlying tz = some f) (hf : (match f with | .struct _ | .array _ _ => true | _ => false) = true) (hj : (P.info? tz).map (·.size) = some ds.size) :
    (results fn tmps).run P w = .ok (.tuple #[.agg cs, .agg ds]) w := by
  have hp' : tmps[p]?.getD undef = .pointer (some ⟨g, 0, none⟩) := by simpa using hp
  have hq' : tmps[q]?.getD undef = .pointer (some ⟨k, 0, none⟩) := by simpa using hq
  simp only [results, h]
  simp [Sem.run_bind, Result.andThen, hp', hq', asAddr, run_loadVar_row w g t ty cs (0, 0) d hb hu hd hi, run_loadVar_row w k u tz ds (0, 0) f hk hv hf hj]
set_option maxRecDepth 100000 in
set_option maxHeartbeats 2000000 in
theorem cut_any (lo hi : Nat → Int) (m : Nat) (c : Int) (w : World) (hm : m < 4) (hc : 0 ≤ c ∧ c ≤ 6) :
    Calls Try.prog 91 #[.agg (xarr lo hi), .int .i64 m, .int .i64 c] w fun e w' => e = .returned (.tuple #[.agg (xarr lo (up1 hi m c)), .agg (xarr (up1 lo m (c + 1)) hi)]) ∧ Below w.heap.size w w' := by
  have k1 := ((Bx.new w 91 (xarr lo hi)).alloc (.cells (xarr (cutf 0 lo) (cutf 0 lo)) 91)).alloc (.cells (xarr (cutf 0 lo) (cutf 0 lo)) 91)
  have k2 := (Bx.at (w.alloc (.cells (xarr lo hi) 91)) 91 (xarr (cutf 0 lo) (cutf 0 lo)) (n := w.heap.size + 1) (by simp)).alloc (.cells (xarr (cutf 0 lo) (cutf 0 lo)) 91)
  have k3 := Bx.at ((w.alloc (.cells (xarr lo hi) 91)).alloc (.cells (xarr (cutf 0 lo) (cutf 0 lo)) 91)) 91 (xarr (cutf 0 lo) (cutf 0 lo)) (n := w.heap.size + 1 + 1) (by simp)
  have B0 := (((Below.refl w.heap.size w).alloc (Nat.le_refl _) (.cells (xarr lo hi) 91)).alloc (by simp) (.cells (xarr (cutf 0 lo) (cutf 0 lo)) 91)).alloc (by simp; omega) (.cells (xarr (cutf 0 lo) (cutf 0 lo)) 91)
  obtain ⟨W1, hW1⟩ : ∃ W1, ((w.alloc (.cells (xarr lo hi) 91)).alloc (.cells (xarr (cutf 0 lo) (cutf 0 lo)) 91)).alloc (.cells (xarr (cutf 0 lo) (cutf 0 lo)) 91) = W1 := ⟨_, rfl⟩
  rw [hW1] at k1 k2 k3 B0
  rw [xarr_cut0] at hW1
  have HW := Lib.hid hW1
  clear hW1
  go_enter Try.func91, Try.ntmps91
  go_wp2_with fail
  rw [HW.out]
  refine AnyG.startC (by kernel_rfl) ?_
  refine AnyG.enter (fun w' : World => Bx w' w.heap.size 91 (xarr lo hi)) (fun i => i != 3) ?_
  have hS : (fun w' : World => Bx w' w.heap.size 91 (xarr lo hi)) (World.drew _) := k1.drew
  refine AnyG.takeC (i := 0) (v := ?_) rfl (by kernel_rfl) (fun _ _ _ h => h) rfl ?_ hS ?_
  rotate_left
  · (intro w' hSw; (try dsimp only at hSw); obtain ⟨p0, p1, p2, p3, p4, p5, p6, p7, pf, pz⟩ := hSw.xarr; go_simp; try with_reducible rfl)
  try simp only [Act.put, List.getElem_toArray, List.getElem_cons_succ, List.getElem_cons_zero, List.setIfInBounds_toArray, List.set_cons_zero, List.set_cons_succ]
  refine AnyG.takeC (i := 1) (v := ?_) rfl (by kernel_rfl) (fun _ _ _ h => h) rfl ?_ hS ?_
  rotate_left
  · (intro w' hSw; (try dsimp only at hSw); obtain ⟨p0, p1, p2, p3, p4, p5, p6, p7, pf, pz⟩ := hSw.xarr; go_simp; try with_reducible rfl)
  try simp only [Act.put, List.getElem_toArray, List.getElem_cons_succ, List.getElem_cons_zero, List.setIfInBounds_toArray, List.set_cons_zero, List.set_cons_succ]
  refine AnyG.one (i := 2) (by kernel_rfl) rfl rfl ?_
  refine wp_store_row 91 (.tmp 6) (.tmp 8) rfl (w.heap.size + 1) (xarr lo hi) rfl (congrArg Value.agg (xarr_def _ _).symm) 91 _ (k2.drew) (by rw [xarr_size]; kernel_rfl) (by simp only [xarr_size]) (xarr_one _ _) ?_
  refine Onward.on (Bx.rowfar hS (by omega)) (fun hS2 => ?_)
  clear hS
  have hS := hS2
  clear hS2
  try simp only [Act.put, List.getElem_toArray, List.getElem_cons_succ, List.getElem_cons_zero, List.setIfInBounds_toArray, List.set_cons_zero, List.set_cons_succ]
  refine AnyG.one (i := 3) (by kernel_rfl) rfl rfl ?_
  refine wp_store_row 91 (.tmp 7) (.tmp 9) rfl (w.heap.size + 1 + 1) (xarr lo hi) rfl (congrArg Value.agg (xarr_def _ _).symm) 91 _ ((k3.drew).rowfar (by omega)) (by rw [xarr_size]; kernel_rfl) (by simp only [xarr_size]) (xarr_one _ _) ?_
  refine Onward.last rfl ?_
  try simp only [Act.put, List.getElem_toArray, List.getElem_cons_succ, List.getElem_cons_zero, List.setIfInBounds_toArray, List.set_cons_zero, List.set_cons_succ]
  refine AnyG.done (by kernel_rfl) ?_ _
  go_simp
  replace B0 := (B0.drew.setRow (g := w.heap.size + 1) (by omega) (xarr lo hi)).setRow (g := w.heap.size + 1 + 1) (by omega) (xarr lo hi)
  replace k1 := (k1.drew.rowfar (g' := w.heap.size + 1) (cs' := xarr lo hi) (by omega)).rowfar (g' := w.heap.size + 1 + 1) (cs' := xarr lo hi) (by omega)
  replace k2 := (k2.drew.row (cs' := xarr lo hi)).rowfar (g' := w.heap.size + 1 + 1) (cs' := xarr lo hi) (by omega)
  replace k3 := (k3.drew.rowfar (g' := w.heap.size + 1) (cs' := xarr lo hi) (by omega)).row (cs' := xarr lo hi)
  obtain ⟨W2, hW2⟩ : ∃ W2, (W1.drew.setRow (w.heap.size + 1) (xarr lo hi)).setRow (w.heap.size + 1 + 1) (xarr lo hi) = W2 := ⟨_, rfl⟩
  rw [hW2] at B0 k1 k2 k3 ⊢
  clear hW2 hS
  have q2 := (k2.cell (m * 2 + 1)).trans (xarr_hi lo hi hm)
  have q3 := (k3.cell (m * 2)).trans (xarr_lo lo hi hm)
  have f2 := k2.free
  have f3 := k3.free
  have z2 := k2.lt
  have z3 := k3.lt
  have hmi : (m : Int) < 4 := by omega
  have hw1 : IntKind.i64.wrap (c + 1) = c + 1 := IntWalk.i64_in _ (by omega)
  go_wp2_with fail
  clear q2 q3 f2 f3 z2 z3 k1
  replace B0 := (B0.setCell (p := ⟨w.heap.size + 1, m * 2 + 1, none⟩) (by simp) (.int .i64 c)).setCell (p := ⟨w.heap.size + 1 + 1, m * 2, none⟩) (by simp; omega) (.int .i64 (c + 1))
  replace k2 := ((xarr_sethi lo hi hm c) ▸ k2.set_ (m * 2 + 1) (.int .i64 c)).far (p := ⟨w.heap.size + 1 + 1, m * 2, none⟩) (by simp) (.int .i64 (c + 1))
  replace k3 := (xarr_setlo lo hi hm (c + 1)) ▸ (k3.far (p := ⟨w.heap.size + 1, m * 2 + 1, none⟩) (by simp) (.int .i64 c)).set_ (m * 2) (.int .i64 (c + 1))
  obtain ⟨W3, hW3⟩ : ∃ W3, (W2.setCell ⟨w.heap.size + 1, m * 2 + 1, none⟩ (.int .i64 c)).setCell ⟨w.heap.size + 1 + 1, m * 2, none⟩ (.int .i64 (c + 1)) = W3 := ⟨_, rfl⟩
  rw [hW3] at B0 k2 k3 ⊢
  clear hW3
  refine AnyG.startC (by kernel_rfl) ?_
  refine AnyG.enter (fun w' : World => Bx w' (w.heap.size + 1) 91 (xarr lo (up1 hi m c)) ∧ Bx w' (w.heap.size + 1 + 1) 91 (xarr (up1 lo m (c + 1)) hi)) (fun i => i != 3) ?_
  have hS : (fun w' : World => Bx w' (w.heap.size + 1) 91 (xarr lo (up1 hi m c)) ∧ Bx w' (w.heap.size + 1 + 1) 91 (xarr (up1 lo m (c + 1)) hi)) (World.drew _) := ⟨k2.drew, k3.drew⟩
  refine AnyG.takeC (i := 0) (v := ?_) rfl (by kernel_rfl) (fun _ _ _ h => h) rfl ?_ hS ?_
  rotate_left
  · (intro w' hSw; (try dsimp only at hSw); obtain ⟨p0, p1, p2, p3, p4, p5, p6, p7, pf, pz⟩ := hSw.1.xarr; go_simp; try with_reducible rfl)
  try simp only [Act.put, List.getElem_toArray, List.getElem_cons_succ, List.getElem_cons_zero, List.setIfInBounds_toArray, List.set_cons_zero, List.set_cons_succ]
  refine AnyG.takeC (i := 1) (v := ?_) rfl (by kernel_rfl) (fun _ _ _ h => h) rfl ?_ hS ?_
  rotate_left
  · (intro w' hSw; (try dsimp only at hSw); obtain ⟨p0, p1, p2, p3, p4, p5, p6, p7, pf, pz⟩ := hSw.2.xarr; go_simp; try with_reducible rfl)
  try simp only [Act.put, List.getElem_toArray, List.getElem_cons_succ, List.getElem_cons_zero, List.setIfInBounds_toArray, List.set_cons_zero, List.set_cons_succ]
  refine AnyG.one (i := 2) (by kernel_rfl) rfl rfl ?_
  refine wp_store_row 91 (.tmp 6) (.tmp 19) rfl (w.heap.size + 1) (xarr lo (up1 hi m c)) rfl (congrArg Value.agg (xarr_def _ _).symm) 91 _ (hS.1) (by rw [xarr_size]; kernel_rfl) (by simp only [xarr_size]) (xarr_one _ _) ?_
  refine Onward.on ⟨hS.1.row, hS.2.rowfar (by omega)⟩ (fun hS2 => ?_)
  clear hS
  have hS := hS2
  clear hS2
  try simp only [Act.put, List.getElem_toArray, List.getElem_cons_succ, List.getElem_cons_zero, List.setIfInBounds_toArray, List.set_cons_zero, List.set_cons_succ]
  refine AnyG.one (i := 3) (by kernel_rfl) rfl rfl ?_
  refine wp_store_row 91 (.tmp 7) (.tmp 20) rfl (w.heap.size + 1 + 1) (xarr (up1 lo m (c + 1)) hi) rfl (congrArg Value.agg (xarr_def _ _).symm) 91 _ (hS.2) (by rw [xarr_size]; kernel_rfl) (by simp only [xarr_size]) (xarr_one _ _) ?_
  refine Onward.last rfl ?_
  try simp only [Act.put, List.getElem_toArray, List.getElem_cons_succ, List.getElem_cons_zero, List.setIfInBounds_toArray, List.set_cons_zero, List.set_cons_succ]
  refine AnyG.done (by kernel_rfl) ?_ _
  go_simp
  go_wp2_with fail
  replace B0 := (B0.drew.setRow (g := w.heap.size + 1) (by omega) (xarr lo (up1 hi m c))).setRow (g := w.heap.size + 1 + 1) (by omega) (xarr (up1 lo m (c + 1)) hi)
  replace k2 := (k2.drew.row (cs' := xarr lo (up1 hi m c))).rowfar (g' := w.heap.size + 1 + 1) (cs' := xarr (up1 lo m (c + 1)) hi) (by omega)
  replace k3 := (k3.drew.rowfar (g' := w.heap.size + 1) (cs' := xarr lo (up1 hi m c)) (by omega)).row (cs' := xarr (up1 lo m (c + 1)) hi)
  refine bodyPost_ret (v := .tuple #[.agg (xarr lo (up1 hi m c)), .agg (xarr (up1 lo m (c + 1)) hi)]) (results_two (g := w.heap.size + 1) (k := w.heap.size + 1 + 1) (t := 91) (u := 91) rfl rfl rfl k2 k3 Try.underlying91 rfl (by rw [xarr_size]; kernel_rfl) Try.underlying91 rfl (by rw [xarr_size]; kernel_rfl)) rfl ⟨rfl, B0⟩
end Go.Proofs.Ytmemcopfeabcgaa
