/- A range within a range. -/
import Derived.Test.YtfcpjkofbejleaaBtbM
set_option linter.unusedSimpArgs false
set_option linter.unusedVariables false
namespace Go.Proofs.Ytfcpjkofbejleaa
open Go Go.RowKit
set_option maxRecDepth 100000 in
set_option maxHeartbeats 4000000 in
theorem tighter_any (g : Nat) (lo hi : Int) (w : World) (h : Fd g w) (h1 : -1000000 ≤ lo) (h2 : lo ≤ hi) (h3 : hi ≤ 1000000) : Calls Try.prog 45 #[.pointer (some ⟨g, 0, none⟩), .agg #[.int .i64 lo, .int .i64 hi]] w fun e w' => (∃ a b : Int, e = .returned (.agg #[.int .i64 a, .int .i64 b]) ∧ lo ≤ a ∧ a ≤ b ∧ b ≤ hi) ∧ Fd g w' ∧ w.grownBy w' (some g) := by
  have hgl := h.lt
  have HG0 := Lib.hid ((h.alloc (.cells #[.int .i64 lo, .int .i64 hi] 41)).alloc (.cells #[.int .i64 0, .int .i64 0] 41))
  have GR0 := Lib.hid (grown_alloc (grown_alloc (grown_refl w (some g)) (.cells #[.int .i64 lo, .int .i64 hi] 41)) (.cells #[.int .i64 0, .int .i64 0] 41))
  have KX := Lib.hid ((Bx.new w 41 #[.int .i64 lo, .int .i64 hi]).alloc (.cells #[.int .i64 0, .int .i64 0] 41))
  have KR := Lib.hid (Bx.at (w.alloc (.cells #[.int .i64 lo, .int .i64 hi] 41)) 41 #[.int .i64 0, .int .i64 0] (n := w.heap.size + 1) (by simp))
  go_enter Try.func45, Try.ntmps45
  go_upto_region 2 with (first | (go_at_call 83; refine (in_any g lo hi _ HG0.out (by omega) (by omega) (by omega)).mono ?_; rintro e V ⟨⟨a, rfl, ha1, ha2⟩, hfV, hgV⟩) | fail)
  have grV := grownF_trans GR0.out hgV
  have kx := KX.out.grown hgV (by simp; omega)
  have kr := KR.out.grown hgV (by simp; omega)
  obtain ⟨b, hb⟩ : ∃ b, w.heap.size = b := ⟨_, rfl⟩
  have hgb : g < b := by omega
  rw [hb] at kx kr ⊢
  clear HG0 GR0 KX KR hgV hgl
  refine AnyG.startC (by kernel_rfl) ?_
  refine AnyG.takeP (i := 0) (v := ?_) rfl (by kernel_rfl) (fun _ _ _ h => h) rfl ?_ ?_
  rotate_left
  · (intro w'; go_simp; try with_reducible rfl)
  try simp only [Act.put, List.getElem_toArray, List.getElem_cons_succ, List.getElem_cons_zero, List.setIfInBounds_toArray, List.set_cons_zero, List.set_cons_succ]
  refine AnyG.takeP (i := 1) (v := ?_) rfl (by kernel_rfl) (fun _ _ _ h => h) rfl ?_ ?_
  rotate_left
  · (intro w'; go_simp; try with_reducible rfl)
  try simp only [Act.put, List.getElem_toArray, List.getElem_cons_succ, List.getElem_cons_zero, List.setIfInBounds_toArray, List.set_cons_zero, List.set_cons_succ]
  refine AnyG.takeP (i := 3) (v := ?_) rfl (by kernel_rfl) (fun _ _ _ h => h) rfl ?_ ?_
  rotate_left
  · (intro w'; go_simp; try with_reducible rfl)
  try simp only [Act.put, List.getElem_toArray, List.getElem_cons_succ, List.getElem_cons_zero, List.setIfInBounds_toArray, List.set_cons_zero, List.set_cons_succ]
  refine AnyG.takeP (i := 6) (v := ?_) rfl (by kernel_rfl) (fun _ _ _ h => h) rfl ?_ ?_
  rotate_left
  · (intro w'; go_simp; try with_reducible rfl)
  try simp only [Act.put, List.getElem_toArray, List.getElem_cons_succ, List.getElem_cons_zero, List.setIfInBounds_toArray, List.set_cons_zero, List.set_cons_succ]
  refine AnyG.takeP (i := 7) (v := ?_) rfl (by kernel_rfl) (fun _ _ _ h => h) rfl ?_ ?_
  rotate_left
  · (intro w'; go_simp; try with_reducible rfl)
  try simp only [Act.put, List.getElem_toArray, List.getElem_cons_succ, List.getElem_cons_zero, List.setIfInBounds_toArray, List.set_cons_zero, List.set_cons_succ]
  refine AnyG.takeP (i := 9) (v := ?_) rfl (by kernel_rfl) (fun _ _ _ h => h) rfl ?_ ?_
  rotate_left
  · (intro w'; go_simp; try with_reducible rfl)
  try simp only [Act.put, List.getElem_toArray, List.getElem_cons_succ, List.getElem_cons_zero, List.setIfInBounds_toArray, List.set_cons_zero, List.set_cons_succ]
  refine AnyG.takeP (i := 10) (v := ?_) rfl (by kernel_rfl) (fun _ _ _ h => h) rfl ?_ ?_
  rotate_left
  · (intro w'; go_simp; try with_reducible rfl)
  try simp only [Act.put, List.getElem_toArray, List.getElem_cons_succ, List.getElem_cons_zero, List.setIfInBounds_toArray, List.set_cons_zero, List.set_cons_succ]
  refine AnyG.takeP (i := 11) (v := ?_) rfl (by kernel_rfl) (fun _ _ _ h => h) rfl ?_ ?_
  rotate_left
  · (intro w'; go_simp; try with_reducible rfl)
  try simp only [Act.put, List.getElem_toArray, List.getElem_cons_succ, List.getElem_cons_zero, List.setIfInBounds_toArray, List.set_cons_zero, List.set_cons_succ]
  refine AnyG.enter (fun w' : World => w.grownBy w' (some g) ∧ Fd g w' ∧ Bx w' b 41 #[.int .i64 lo, .int .i64 hi] ∧ Bx w' (b + 1) 41 #[.int .i64 0, .int .i64 0]) (fun i => i != 17) ?_
  have hS : (fun w' : World => w.grownBy w' (some g) ∧ Fd g w' ∧ Bx w' b 41 #[.int .i64 lo, .int .i64 hi] ∧ Bx w' (b + 1) 41 #[.int .i64 0, .int .i64 0]) (World.drew _) := ⟨grownF_trans grV (grown_drew _ _), hfV.drew, kx.drew, kr.drew⟩
  refine AnyG.takeC (i := 2) (v := ?_) rfl (by kernel_rfl) (fun _ _ _ h => h) rfl ?_ hS ?_
  rotate_left
  · (intro w' hSw; (try dsimp only at hSw); obtain ⟨c0, c1, cf, cz⟩ := hSw.2.2.1.two; go_simp; try with_reducible rfl)
  try simp only [Act.put, List.getElem_toArray, List.getElem_cons_succ, List.getElem_cons_zero, List.setIfInBounds_toArray, List.set_cons_zero, List.set_cons_succ]
  refine AnyG.takeC (i := 8) (v := ?_) rfl (by kernel_rfl) (fun _ _ _ h => h) rfl ?_ hS ?_
  rotate_left
  · (intro w' hSw; (try dsimp only at hSw); obtain ⟨c0, c1, cf, cz⟩ := hSw.2.2.1.two; go_simp; try with_reducible rfl)
  try simp only [Act.put, List.getElem_toArray, List.getElem_cons_succ, List.getElem_cons_zero, List.setIfInBounds_toArray, List.set_cons_zero, List.set_cons_succ]
  refine AnyG.takeC (i := 12) (v := ?_) rfl (by kernel_rfl) (fun _ _ _ h => h) rfl ?_ hS ?_
  rotate_left
  · (intro w' hSw; (try dsimp only at hSw); obtain ⟨c0, c1, cf, cz⟩ := hSw.2.2.1.two; go_simp; try with_reducible rfl)
  try simp only [Act.put, List.getElem_toArray, List.getElem_cons_succ, List.getElem_cons_zero, List.setIfInBounds_toArray, List.set_cons_zero, List.set_cons_succ]
  refine AnyG.one (i := 4) (by kernel_rfl) rfl rfl ?_
  have hl4 := hS.2.1.lt
  go_simp
  refine Onward.on ⟨grown_alloc hS.1 _, hS.2.1.alloc _, hS.2.2.1.alloc _, hS.2.2.2.alloc _⟩ (fun hS2 => ?_)
  clear hS
  have hS := hS2
  clear hS2
  try simp only [Act.put, List.getElem_toArray, List.getElem_cons_succ, List.getElem_cons_zero, List.setIfInBounds_toArray, List.set_cons_zero, List.set_cons_succ]
  refine AnyG.one (i := 5) (by kernel_rfl) rfl rfl ?_
  go_simp
  refine (either_any g _ 2 _ (fun r => lo ≤ r ∧ r ≤ a) _ hS.2.1 (Bx.new _ _ _) (Nat.ne_of_gt hl4) (by omega) (by omega) (bx2 _ ⟨by omega, by omega⟩ ⟨by omega, by omega⟩)).mono ?_
  rintro e y5 ⟨⟨p5, rfl, hp5a, hp5b⟩, hf5, hg5⟩
  refine Onward.on ⟨grownF_trans hS.1 hg5, hf5, hS.2.2.1.grown hg5 (by simp; omega), hS.2.2.2.grown hg5 (by simp; omega)⟩ (fun hS2 => ?_)
  clear hS
  have hS := hS2
  clear hS2
  try simp only [Act.put, List.getElem_toArray, List.getElem_cons_succ, List.getElem_cons_zero, List.setIfInBounds_toArray, List.set_cons_zero, List.set_cons_succ]
  refine AnyG.one (i := 13) (by kernel_rfl) rfl rfl ?_
  go_simp
  refine (between_any g a hi _ hS.2.1 (by omega) (by omega) (by omega) (by omega)).mono ?_
  rintro e y13 ⟨⟨p13, rfl, hp13a, hp13b⟩, hf13, hg13⟩
  refine Onward.on ⟨grownF_trans hS.1 hg13, hf13, hS.2.2.1.grown hg13 (by simp; omega), hS.2.2.2.grown hg13 (by simp; omega)⟩ (fun hS2 => ?_)
  clear hS
  have hS := hS2
  clear hS2
  try simp only [Act.put, List.getElem_toArray, List.getElem_cons_succ, List.getElem_cons_zero, List.setIfInBounds_toArray, List.set_cons_zero, List.set_cons_succ]
  refine AnyG.one (i := 14) (by kernel_rfl) rfl rfl ?_
  have hl14 := hS.2.1.lt
  go_simp
  refine Onward.on ⟨grown_alloc hS.1 _, hS.2.1.alloc _, hS.2.2.1.alloc _, hS.2.2.2.alloc _⟩ (fun hS2 => ?_)
  clear hS
  have hS := hS2
  clear hS2
  try simp only [Act.put, List.getElem_toArray, List.getElem_cons_succ, List.getElem_cons_zero, List.setIfInBounds_toArray, List.set_cons_zero, List.set_cons_succ]
  refine AnyG.one (i := 15) (by kernel_rfl) rfl rfl ?_
  go_simp
  refine (either_any g _ 2 _ (fun r => a ≤ r ∧ r ≤ hi) _ hS.2.1 (Bx.new _ _ _) (Nat.ne_of_gt hl14) (by omega) (by omega) (bx2 _ ⟨by omega, by omega⟩ ⟨by omega, by omega⟩)).mono ?_
  rintro e y15 ⟨⟨p15, rfl, hp15a, hp15b⟩, hf15, hg15⟩
  refine Onward.on ⟨grownF_trans hS.1 hg15, hf15, hS.2.2.1.grown hg15 (by simp; omega), hS.2.2.2.grown hg15 (by simp; omega)⟩ (fun hS2 => ?_)
  clear hS
  have hS := hS2
  clear hS2
  try simp only [Act.put, List.getElem_toArray, List.getElem_cons_succ, List.getElem_cons_zero, List.setIfInBounds_toArray, List.set_cons_zero, List.set_cons_succ]
  refine AnyG.takeC (i := 16) (v := ?_) rfl (by kernel_rfl) (fun _ _ _ h => h) rfl ?_ hS ?_
  rotate_left
  · (intro w' hSw; (try dsimp only at hSw); go_simp; try with_reducible rfl)
  try simp only [Act.put, List.getElem_toArray, List.getElem_cons_succ, List.getElem_cons_zero, List.setIfInBounds_toArray, List.set_cons_zero, List.set_cons_succ]
  refine AnyG.one (i := 17) (by kernel_rfl) rfl rfl ?_
  obtain ⟨r0, r1, rf, rz⟩ := hS.2.2.2.two
  go_simp
  refine Onward.last rfl ?_
  try simp only [Act.put, List.getElem_toArray, List.getElem_cons_succ, List.getElem_cons_zero, List.setIfInBounds_toArray, List.set_cons_zero, List.set_cons_succ]
  refine AnyG.done (by kernel_rfl) ?_ _
  go_simp
  go_wp2_with fail
  refine bodyPost_ret (v := .agg #[.int .i64 p5, .int .i64 p15]) (by simp [results, Try.results45, go_sem, r0, r1, World.cell?_setCell_same', World.cell?_setCell_other]) rfl ⟨⟨p5, p15, rfl, by omega, by omega, by omega⟩, (hS.2.1.far (by simp; omega) _).far (by simp; omega) _, grown_new (grown_new hS.1 (by omega) _) (by omega) _⟩
end Go.Proofs.Ytfcpjkofbejleaa
