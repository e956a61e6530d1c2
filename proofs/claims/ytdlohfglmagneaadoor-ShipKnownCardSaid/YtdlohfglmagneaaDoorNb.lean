/- awake. -/
import Derived.Test.YtdlohfglmagneaaDoorNaM
import Derived.Laws.StructEq
set_option linter.unusedSimpArgs false
set_option linter.unusedVariables false
namespace Go.Proofs.YtdlohfglmagneaaDoor
open Go Go.RowKit
attribute [local go_sem] Oper.semAt_some
set_option maxRecDepth 100000 in
@[local go_sem] theorem eq41 (a b c d : Int) (w : World) : (Op.equalIn 10000 29 (.agg #[.int .i64 a, .int .i64 b]) (.agg #[.int .i64 c, .int .i64 d])).run Tryd.prog w = .ok (a == c && b == d) w := by
  have u3 := Tryd.underlying3
  have a3 := Tryd.isAgg3
  have z3 := Tryd.sizeOf3
  have hS : Tryd.prog.underlying 29 = some (.struct (Tryd.prog.fieldsOf 29)) := by kernel_rfl
  have hp : Tryd.prog.stoodInHeld 29 = false := by kernel_rfl
  rw [show (10000 : Nat) = 9999 + 1 from rfl, run_equalIn_agg w 9999 29 _ _ hS hp]
  simp only [Program.fieldsOf, Tryd.underlying29]
  go_simp
  by_cases h1 : a = c <;> by_cases h2 : b = d <;> simp [h1, h2]
theorem ex_lf : LvFit exV := fun s hs => by
  simp [exV] at hs
  rcases hs with rfl | rfl <;> simp
theorem int3 (w : World) (a b c : Int) : Sl (w.alloc (.cells #[.int .i64 a, .int .i64 b, .int .i64 c] 3)) (w.alloc (.cells #[.int .i64 a, .int .i64 b, .int .i64 c] 3)).heap.size 1 (some ⟨w.heap.size, 0, none⟩) (inr [a, b, c]) := of_rows (Bx.new w 3 _) rfl (by simp [inr])
theorem bstep {w x y : World} {o : Obj} (b : Below w.heap.size w x) (h : Below (x.alloc o).heap.size (x.alloc o) y) : Below w.heap.size w y := (b.alloc b.size o).trans (h.mono (by have := b.size; simp; omega))
theorem rng2 (w : World) (a b c d : Int) : Sl (w.alloc (.cells #[.int .i64 a, .int .i64 b, .int .i64 c, .int .i64 d] 29)) (w.alloc (.cells #[.int .i64 a, .int .i64 b, .int .i64 c, .int .i64 d] 29)).heap.size 2 (some ⟨w.heap.size, 0, none⟩) (gnr [(a, b), (c, d)]) := of_rows (Bx.new w 29 _) rfl (by simp [gnr])
theorem bel1 (w : World) (o : Obj) : Below w.heap.size w (w.alloc o) := (Below.refl _ _).alloc (Nat.le_refl _) _
set_option maxRecDepth 100000 in
set_option maxHeartbeats 4000000 in
theorem awake_any (w : World) : Calls Tryd.prog 6 #[] w fun e w' => e = .returned (.bool true) ∧ Below w.heap.size w w' := by
  go_enter Tryd.func6, Tryd.ntmps6
  go_wp2_with (first
    | (go_at_call 13; refine (best_any exV p3 _ hF3 ex_lf hV3).mono ?_; rintro e w6 ⟨hpost, hb6⟩; rw [if_pos ex_ck, ex_best] at hpost; obtain ⟨A7, c7, rfl, hoB⟩ := hpost; rw [ex_worth, hl3]; rw [hl3] at hoB)
    | (go_at_call 4; have _t := hb4; clear _t; refine (voyage_any _).mono ?_; rintro e w5 ⟨⟨p3, hF3, hl3, rfl, hV3⟩, hb5⟩)
    | (go_at_call 10; refine (sail33_any exV p2 (some ⟨w3.heap.size, 0, none⟩) 3 3 [0, 1, -1] _ hF2 ex_lf (hV2.call (bel1 _ _)) (int3 _ _ _ _) rfl (by omega)).mono ?_; rintro e w4 ⟨hpost, hb4⟩; rw [if_pos ex_st, ex_verd, ex_over] at hpost; obtain ⟨A5, c5, rfl, hoS⟩ := hpost)
    | (go_at_call 4; have _t := hb2; clear _t; refine (voyage_any _).mono ?_; rintro e w3 ⟨⟨p2, hF2, hl2, rfl, hV2⟩, hb3⟩)
    | (go_at_call 12; refine (drafts_any exV p1 (some ⟨w1.heap.size, 0, none⟩) 3 3 [0, 1, -1] _ hF1 ex_lf (hV1.call (bel1 _ _)) (int3 _ _ _ _) rfl (by omega)).mono ?_; rintro e w2 ⟨rfl, hb2⟩; rw [if_pos ex_st, ex_db.1, ex_db.2.1, ex_db.2.2.1, ex_db.2.2.2])
    | (go_at_call 4; refine (voyage_any _).mono ?_; rintro e w1 ⟨⟨p1, hF1, hl1, rfl, hV1⟩, hb1⟩)
    | fail)
  have q1 := (((((Bx.new w2 29 #[.int .i64 1290000, .int .i64 1340000]).alloc (.cells #[.int .i64 1260000, .int .i64 1310000] 29)).call hb3).alloc _).call hb4).call hb5 |>.call hb6
  have q2 := (((((Bx.at (w2.alloc (.cells #[.int .i64 1290000, .int .i64 1340000] 29)) 29 #[.int .i64 1260000, .int .i64 1310000] (n := w2.heap.size + 1) (by simp))).call hb3).alloc _).call hb4).call hb5 |>.call hb6
  have gI : Sl w6 w6.heap.size 1 (some A7) (inr [0, -1, 1]) := own_inr hoB rfl
  have gR : Sl w6 w6.heap.size 2 A5 (gnr [(90, 100), (240, 250)]) := by
    have := own_bel (own_bel hoS hb5) hb6
    exact own_gnr this rfl
  have BB : Below w.heap.size w w6 := by
    have b3 := bstep hb1 hb2
    have b6 := bstep (b3.alloc b3.size _) hb3
    have b8 := bstep b6 hb4
    have b9 := b8.trans (hb5.mono b8.size)
    exact b9.trans (hb6.mono b9.size)
  clear hb1 hb2 hb3 hb4 hb5 hb6 hoB hoS hV1 hV2 hV3
  refine AnyG.startC (by kernel_rfl) ?_
  refine AnyG.takeP (i := 0) (v := ?_) rfl (by kernel_rfl) (fun _ _ _ h => h) rfl ?_ ?_
  rotate_left
  · (intro w'; go_simp; try with_reducible rfl)
  try simp only [Act.put, List.getElem_toArray, List.getElem_cons_succ, List.getElem_cons_zero, List.setIfInBounds_toArray, List.set_cons_zero, List.set_cons_succ]
  refine AnyG.takeP (i := 1) (v := ?_) rfl (by kernel_rfl) (fun _ _ _ h => h) rfl ?_ ?_
  rotate_left
  · (intro w'; go_simp; try with_reducible rfl)
  try simp only [Act.put, List.getElem_toArray, List.getElem_cons_succ, List.getElem_cons_zero, List.setIfInBounds_toArray, List.set_cons_zero, List.set_cons_succ]
  refine AnyG.takeP (i := 2) (v := ?_) rfl (by kernel_rfl) (fun _ _ _ h => h) rfl ?_ ?_
  rotate_left
  · (intro w'; go_simp; try with_reducible rfl)
  try simp only [Act.put, List.getElem_toArray, List.getElem_cons_succ, List.getElem_cons_zero, List.setIfInBounds_toArray, List.set_cons_zero, List.set_cons_succ]
  refine AnyG.enter (fun w' : World => (Bx w' w2.heap.size 29 #[.int .i64 1290000, .int .i64 1340000] ∧ Bx w' (w2.heap.size + 1) 29 #[.int .i64 1260000, .int .i64 1310000]) ∧ (Sl w' w'.heap.size 1 (some A7) (inr [0, -1, 1]) ∧ Sl w' w'.heap.size 2 A5 (gnr [(90, 100), (240, 250)])) ∧ Below w.heap.size w w') (fun i => true) ?_
  have hS : (fun w' : World => (Bx w' w2.heap.size 29 #[.int .i64 1290000, .int .i64 1340000] ∧ Bx w' (w2.heap.size + 1) 29 #[.int .i64 1260000, .int .i64 1310000]) ∧ (Sl w' w'.heap.size 1 (some A7) (inr [0, -1, 1]) ∧ Sl w' w'.heap.size 2 A5 (gnr [(90, 100), (240, 250)])) ∧ Below w.heap.size w w') (World.drew _) := ⟨⟨q1.drew, q2.drew⟩, ⟨gI, gR⟩, BB.drew⟩
  refine AnyG.takeGC (i := 3) (v := ?_) rfl (by kernel_rfl) (fun _ _ _ h => h) (by first | (simp [Region.wanted, yielded]; done) | simp [Region.wanted, yielded, undef]) ?_ hS ?_
  rotate_left
  · (intro w' hSw; (try dsimp only at hSw); go_simp; try with_reducible rfl)
  try simp only [Act.put, List.getElem_toArray, List.getElem_cons_succ, List.getElem_cons_zero, List.setIfInBounds_toArray, List.set_cons_zero, List.set_cons_succ]
  refine AnyG.takeGC (i := 4) (v := ?_) rfl (by kernel_rfl) (fun _ _ _ h => h) (by first | (simp [Region.wanted, yielded]; done) | simp [Region.wanted, yielded, undef]) ?_ hS ?_
  rotate_left
  · (intro w' hSw; (try dsimp only at hSw); go_simp; try with_reducible rfl)
  try simp only [Act.put, List.getElem_toArray, List.getElem_cons_succ, List.getElem_cons_zero, List.setIfInBounds_toArray, List.set_cons_zero, List.set_cons_succ]
  refine AnyG.takeC (i := 5) (v := ?_) rfl (by kernel_rfl) (fun _ _ _ h => h) rfl ?_ hS ?_
  rotate_left
  · (intro w' hSw; (try dsimp only at hSw); go_simp; try with_reducible rfl)
  try simp only [Act.put, List.getElem_toArray, List.getElem_cons_succ, List.getElem_cons_zero, List.setIfInBounds_toArray, List.set_cons_zero, List.set_cons_succ]
  refine AnyG.takeC (i := 6) (v := ?_) rfl (by kernel_rfl) (fun _ _ _ h => h) rfl ?_ hS ?_
  rotate_left
  · (intro w' hSw; (try dsimp only at hSw); go_simp; try with_reducible rfl)
  try simp only [Act.put, List.getElem_toArray, List.getElem_cons_succ, List.getElem_cons_zero, List.setIfInBounds_toArray, List.set_cons_zero, List.set_cons_succ]
  refine AnyG.takeGC (i := 7) (v := ?_) rfl (by kernel_rfl) (fun _ _ _ h => h) (by first | (simp [Region.wanted, yielded]; done) | simp [Region.wanted, yielded, undef]) ?_ hS ?_
  rotate_left
  · (intro w' hSw; (try dsimp only at hSw); go_simp; try with_reducible rfl)
  try simp only [Act.put, List.getElem_toArray, List.getElem_cons_succ, List.getElem_cons_zero, List.setIfInBounds_toArray, List.set_cons_zero, List.set_cons_succ]
  refine AnyG.takeGC (i := 8) (v := ?_) rfl (by kernel_rfl) (fun _ _ _ h => h) (by first | (simp [Region.wanted, yielded]; done) | simp [Region.wanted, yielded, undef]) ?_ hS ?_
  rotate_left
  · (intro w' hSw; (try dsimp only at hSw); go_simp; try with_reducible rfl)
  try simp only [Act.put, List.getElem_toArray, List.getElem_cons_succ, List.getElem_cons_zero, List.setIfInBounds_toArray, List.set_cons_zero, List.set_cons_succ]
  refine AnyG.takeC (i := 9) (v := ?_) rfl (by kernel_rfl) (fun _ _ _ h => h) rfl ?_ hS ?_
  rotate_left
  · (intro w' hSw; (try dsimp only at hSw); go_simp; try with_reducible rfl)
  try simp only [Act.put, List.getElem_toArray, List.getElem_cons_succ, List.getElem_cons_zero, List.setIfInBounds_toArray, List.set_cons_zero, List.set_cons_succ]
  refine AnyG.takeC (i := 10) (v := ?_) rfl (by kernel_rfl) (fun _ _ _ h => h) rfl ?_ hS ?_
  rotate_left
  · (intro w' hSw; (try dsimp only at hSw); go_simp; try with_reducible rfl)
  try simp only [Act.put, List.getElem_toArray, List.getElem_cons_succ, List.getElem_cons_zero, List.setIfInBounds_toArray, List.set_cons_zero, List.set_cons_succ]
  refine AnyG.takeGC (i := 11) (v := ?_) rfl (by kernel_rfl) (fun _ _ _ h => h) (by first | (simp [Region.wanted, yielded]; done) | simp [Region.wanted, yielded, undef]) ?_ hS ?_
  rotate_left
  · (intro w' hSw; (try dsimp only at hSw); obtain ⟨x0, x1, xf, xz⟩ := hSw.1.1.two; go_simp; try with_reducible rfl)
  try simp only [Act.put, List.getElem_toArray, List.getElem_cons_succ, List.getElem_cons_zero, List.setIfInBounds_toArray, List.set_cons_zero, List.set_cons_succ]
  refine AnyG.oneC (i := 12) (by kernel_rfl) rfl (by first | (simp [Region.wanted, yielded]; done) | simp [Region.wanted, yielded, undef]) ?_
  go_simp
  refine (rng_any 1290000 1340000 _).mono ?_
  rintro e12 y12 ⟨rfl, hb52⟩
  refine Onward.on ⟨⟨hS.1.1.call (hb52), hS.1.2.call (hb52)⟩, ⟨(hS.2.1.1.below (hb52)).more (hb52).size, (hS.2.1.2.below (hb52)).more (hb52).size⟩, hS.2.2.trans ((hb52).mono hS.2.2.size)⟩ (fun hS2 => ?_)
  clear hS
  have hS := hS2
  clear hS2
  try simp only [Act.put, List.getElem_toArray, List.getElem_cons_succ, List.getElem_cons_zero, List.setIfInBounds_toArray, List.set_cons_zero, List.set_cons_succ]
  refine AnyG.takeGC (i := 13) (v := ?_) rfl (by kernel_rfl) (fun _ _ _ h => h) (by first | (simp [Region.wanted, yielded]; done) | simp [Region.wanted, yielded, undef]) ?_ hS ?_
  rotate_left
  · (intro w' hSw; (try dsimp only at hSw); go_simp; try with_reducible rfl)
  try simp only [Act.put, List.getElem_toArray, List.getElem_cons_succ, List.getElem_cons_zero, List.setIfInBounds_toArray, List.set_cons_zero, List.set_cons_succ]
  refine AnyG.takeC (i := 14) (v := ?_) rfl (by kernel_rfl) (fun _ _ _ h => h) rfl ?_ hS ?_
  rotate_left
  · (intro w' hSw; (try dsimp only at hSw); go_simp; try with_reducible rfl)
  try simp only [Act.put, List.getElem_toArray, List.getElem_cons_succ, List.getElem_cons_zero, List.setIfInBounds_toArray, List.set_cons_zero, List.set_cons_succ]
  refine AnyG.takeC (i := 15) (v := ?_) rfl (by kernel_rfl) (fun _ _ _ h => h) rfl ?_ hS ?_
  rotate_left
  · (intro w' hSw; (try dsimp only at hSw); go_simp; try with_reducible rfl)
  try simp only [Act.put, List.getElem_toArray, List.getElem_cons_succ, List.getElem_cons_zero, List.setIfInBounds_toArray, List.set_cons_zero, List.set_cons_succ]
  refine AnyG.takeGC (i := 16) (v := ?_) rfl (by kernel_rfl) (fun _ _ _ h => h) (by first | (simp [Region.wanted, yielded]; done) | simp [Region.wanted, yielded, undef]) ?_ hS ?_
  rotate_left
  · (intro w' hSw; (try dsimp only at hSw); obtain ⟨x0, x1, xf, xz⟩ := hSw.1.2.two; go_simp; try with_reducible rfl)
  try simp only [Act.put, List.getElem_toArray, List.getElem_cons_succ, List.getElem_cons_zero, List.setIfInBounds_toArray, List.set_cons_zero, List.set_cons_succ]
  refine AnyG.oneC (i := 17) (by kernel_rfl) rfl (by first | (simp [Region.wanted, yielded]; done) | simp [Region.wanted, yielded, undef]) ?_
  go_simp
  refine (rng_any 1260000 1310000 _).mono ?_
  rintro e17 y17 ⟨rfl, hb57⟩
  refine Onward.on ⟨⟨hS.1.1.call (hb57), hS.1.2.call (hb57)⟩, ⟨(hS.2.1.1.below (hb57)).more (hb57).size, (hS.2.1.2.below (hb57)).more (hb57).size⟩, hS.2.2.trans ((hb57).mono hS.2.2.size)⟩ (fun hS2 => ?_)
  clear hS
  have hS := hS2
  clear hS2
  try simp only [Act.put, List.getElem_toArray, List.getElem_cons_succ, List.getElem_cons_zero, List.setIfInBounds_toArray, List.set_cons_zero, List.set_cons_succ]
  refine AnyG.takeGC (i := 18) (v := ?_) rfl (by kernel_rfl) (fun _ _ _ h => h) (by first | (simp [Region.wanted, yielded]; done) | simp [Region.wanted, yielded, undef]) ?_ hS ?_
  rotate_left
  · (intro w' hSw; (try dsimp only at hSw); go_simp; try with_reducible rfl)
  try simp only [Act.put, List.getElem_toArray, List.getElem_cons_succ, List.getElem_cons_zero, List.setIfInBounds_toArray, List.set_cons_zero, List.set_cons_succ]
  refine AnyG.takeC (i := 19) (v := ?_) rfl (by kernel_rfl) (fun _ _ _ h => h) rfl ?_ hS ?_
  rotate_left
  · (intro w' hSw; (try dsimp only at hSw); go_simp; try with_reducible rfl)
  try simp only [Act.put, List.getElem_toArray, List.getElem_cons_succ, List.getElem_cons_zero, List.setIfInBounds_toArray, List.set_cons_zero, List.set_cons_succ]
  refine AnyG.takeC (i := 20) (v := ?_) rfl (by kernel_rfl) (fun _ _ _ h => h) rfl ?_ hS ?_
  rotate_left
  · (intro w' hSw; (try dsimp only at hSw); go_simp; try with_reducible rfl)
  try simp only [Act.put, List.getElem_toArray, List.getElem_cons_succ, List.getElem_cons_zero, List.setIfInBounds_toArray, List.set_cons_zero, List.set_cons_succ]
  refine AnyG.takeGC (i := 21) (v := ?_) rfl (by kernel_rfl) (fun _ _ _ h => h) (by first | (simp [Region.wanted, yielded]; done) | simp [Region.wanted, yielded, undef]) ?_ hS ?_
  rotate_left
  · (intro w' hSw; (try dsimp only at hSw); go_simp; try with_reducible rfl)
  try simp only [Act.put, List.getElem_toArray, List.getElem_cons_succ, List.getElem_cons_zero, List.setIfInBounds_toArray, List.set_cons_zero, List.set_cons_succ]
  refine AnyG.takeGC (i := 22) (v := ?_) rfl (by kernel_rfl) (fun _ _ _ h => h) (by first | (simp [Region.wanted, yielded]; done) | simp [Region.wanted, yielded, undef]) ?_ hS ?_
  rotate_left
  · (intro w' hSw; (try dsimp only at hSw); go_simp; try with_reducible rfl)
  try simp only [Act.put, List.getElem_toArray, List.getElem_cons_succ, List.getElem_cons_zero, List.setIfInBounds_toArray, List.set_cons_zero, List.set_cons_succ]
  refine AnyG.takeC (i := 23) (v := ?_) rfl (by kernel_rfl) (fun _ _ _ h => h) rfl ?_ hS ?_
  rotate_left
  · (intro w' hSw; (try dsimp only at hSw); go_simp; try with_reducible rfl)
  try simp only [Act.put, List.getElem_toArray, List.getElem_cons_succ, List.getElem_cons_zero, List.setIfInBounds_toArray, List.set_cons_zero, List.set_cons_succ]
  refine AnyG.takeC (i := 24) (v := ?_) rfl (by kernel_rfl) (fun _ _ _ h => h) rfl ?_ hS ?_
  rotate_left
  · (intro w' hSw; (try dsimp only at hSw); go_simp; try with_reducible rfl)
  try simp only [Act.put, List.getElem_toArray, List.getElem_cons_succ, List.getElem_cons_zero, List.setIfInBounds_toArray, List.set_cons_zero, List.set_cons_succ]
  refine AnyG.takeGC (i := 25) (v := ?_) rfl (by kernel_rfl) (fun _ _ _ h => h) (by first | (simp [Region.wanted, yielded]; done) | simp [Region.wanted, yielded, undef]) ?_ hS ?_
  rotate_left
  · (intro w' hSw; (try dsimp only at hSw); go_simp; try with_reducible rfl)
  try simp only [Act.put, List.getElem_toArray, List.getElem_cons_succ, List.getElem_cons_zero, List.setIfInBounds_toArray, List.set_cons_zero, List.set_cons_succ]
  refine AnyG.takeGC (i := 26) (v := ?_) rfl (by kernel_rfl) (fun _ _ _ h => h) (by first | (simp [Region.wanted, yielded]; done) | simp [Region.wanted, yielded, undef]) ?_ hS ?_
  rotate_left
  · (intro w' hSw; (try dsimp only at hSw); go_simp; try with_reducible rfl)
  try simp only [Act.put, List.getElem_toArray, List.getElem_cons_succ, List.getElem_cons_zero, List.setIfInBounds_toArray, List.set_cons_zero, List.set_cons_succ]
  refine AnyG.takeC (i := 27) (v := ?_) rfl (by kernel_rfl) (fun _ _ _ h => h) rfl ?_ hS ?_
  rotate_left
  · (intro w' hSw; (try dsimp only at hSw); go_simp; try with_reducible rfl)
  try simp only [Act.put, List.getElem_toArray, List.getElem_cons_succ, List.getElem_cons_zero, List.setIfInBounds_toArray, List.set_cons_zero, List.set_cons_succ]
  refine AnyG.takeC (i := 28) (v := ?_) rfl (by kernel_rfl) (fun _ _ _ h => h) rfl ?_ hS ?_
  rotate_left
  · (intro w' hSw; (try dsimp only at hSw); go_simp; try with_reducible rfl)
  try simp only [Act.put, List.getElem_toArray, List.getElem_cons_succ, List.getElem_cons_zero, List.setIfInBounds_toArray, List.set_cons_zero, List.set_cons_succ]
  refine AnyG.takeGC (i := 29) (v := ?_) rfl (by kernel_rfl) (fun _ _ _ h => h) (by first | (simp [Region.wanted, yielded]; done) | simp [Region.wanted, yielded, undef]) ?_ hS ?_
  rotate_left
  · (intro w' hSw; (try dsimp only at hSw); go_simp; try with_reducible rfl)
  try simp only [Act.put, List.getElem_toArray, List.getElem_cons_succ, List.getElem_cons_zero, List.setIfInBounds_toArray, List.set_cons_zero, List.set_cons_succ]
  refine AnyG.oneC (i := 30) (by kernel_rfl) rfl (by first | (simp [Region.wanted, yielded]; done) | simp [Region.wanted, yielded, undef]) ?_
  go_simp
  refine Onward.on ⟨⟨hS.1.1.call (bel1 _ _), hS.1.2.call (bel1 _ _)⟩, ⟨(hS.2.1.1.below (bel1 _ _)).more (bel1 _ _).size, (hS.2.1.2.below (bel1 _ _)).more (bel1 _ _).size⟩, hS.2.2.trans ((bel1 _ _).mono hS.2.2.size)⟩ (fun hS2 => ?_)
  clear hS
  have hS := hS2
  clear hS2
  try simp only [Act.put, List.getElem_toArray, List.getElem_cons_succ, List.getElem_cons_zero, List.setIfInBounds_toArray, List.set_cons_zero, List.set_cons_succ]
  refine AnyG.oneC (i := 31) (by kernel_rfl) rfl (by first | (simp [Region.wanted, yielded]; done) | simp [Region.wanted, yielded, undef]) ?_
  go_simp
  refine (equalInts_any (some A7) 3 c7 (some ⟨y17.heap.size, 0, none⟩) 3 3 [0, -1, 1] [0, -1, 1] _ (by omega) (by omega) rfl rfl hS.2.1.1 (int3 _ _ _ _)).mono ?_
  rintro e31 y31 ⟨rfl, hb71⟩
  rw [show decide (([0, -1, 1] : List Int) = [0, -1, 1]) = true from rfl]
  refine Onward.on ⟨⟨hS.1.1.call (hb71), hS.1.2.call (hb71)⟩, ⟨(hS.2.1.1.below (hb71)).more (hb71).size, (hS.2.1.2.below (hb71)).more (hb71).size⟩, hS.2.2.trans ((hb71).mono hS.2.2.size)⟩ (fun hS2 => ?_)
  clear hS
  have hS := hS2
  clear hS2
  try simp only [Act.put, List.getElem_toArray, List.getElem_cons_succ, List.getElem_cons_zero, List.setIfInBounds_toArray, List.set_cons_zero, List.set_cons_succ]
  refine AnyG.takeC (i := 32) (v := ?_) rfl (by kernel_rfl) (fun _ _ _ h => h) rfl ?_ hS ?_
  rotate_left
  · (intro w' hSw; (try dsimp only at hSw); go_simp; try with_reducible rfl)
  try simp only [Act.put, List.getElem_toArray, List.getElem_cons_succ, List.getElem_cons_zero, List.setIfInBounds_toArray, List.set_cons_zero, List.set_cons_succ]
  refine AnyG.takeC (i := 33) (v := ?_) rfl (by kernel_rfl) (fun _ _ _ h => h) rfl ?_ hS ?_
  rotate_left
  · (intro w' hSw; (try dsimp only at hSw); go_simp; try with_reducible rfl)
  try simp only [Act.put, List.getElem_toArray, List.getElem_cons_succ, List.getElem_cons_zero, List.setIfInBounds_toArray, List.set_cons_zero, List.set_cons_succ]
  refine AnyG.takeGC (i := 34) (v := ?_) rfl (by kernel_rfl) (fun _ _ _ h => h) (by first | (simp [Region.wanted, yielded]; done) | simp [Region.wanted, yielded, undef]) ?_ hS ?_
  rotate_left
  · (intro w' hSw; (try dsimp only at hSw); go_simp; try with_reducible rfl)
  try simp only [Act.put, List.getElem_toArray, List.getElem_cons_succ, List.getElem_cons_zero, List.setIfInBounds_toArray, List.set_cons_zero, List.set_cons_succ]
  refine AnyG.oneC (i := 35) (by kernel_rfl) rfl (by first | (simp [Region.wanted, yielded]; done) | simp [Region.wanted, yielded, undef]) ?_
  go_simp
  refine (rng_any 90 100 _).mono ?_
  rintro e35 y35 ⟨rfl, hb75⟩
  refine Onward.on ⟨⟨hS.1.1.call (hb75), hS.1.2.call (hb75)⟩, ⟨(hS.2.1.1.below (hb75)).more (hb75).size, (hS.2.1.2.below (hb75)).more (hb75).size⟩, hS.2.2.trans ((hb75).mono hS.2.2.size)⟩ (fun hS2 => ?_)
  clear hS
  have hS := hS2
  clear hS2
  try simp only [Act.put, List.getElem_toArray, List.getElem_cons_succ, List.getElem_cons_zero, List.setIfInBounds_toArray, List.set_cons_zero, List.set_cons_succ]
  refine AnyG.oneC (i := 36) (by kernel_rfl) rfl (by first | (simp [Region.wanted, yielded]; done) | simp [Region.wanted, yielded, undef]) ?_
  go_simp
  refine (rng_any 240 250 _).mono ?_
  rintro e36 y36 ⟨rfl, hb76⟩
  refine Onward.on ⟨⟨hS.1.1.call (hb76), hS.1.2.call (hb76)⟩, ⟨(hS.2.1.1.below (hb76)).more (hb76).size, (hS.2.1.2.below (hb76)).more (hb76).size⟩, hS.2.2.trans ((hb76).mono hS.2.2.size)⟩ (fun hS2 => ?_)
  clear hS
  have hS := hS2
  clear hS2
  try simp only [Act.put, List.getElem_toArray, List.getElem_cons_succ, List.getElem_cons_zero, List.setIfInBounds_toArray, List.set_cons_zero, List.set_cons_succ]
  refine AnyG.oneC (i := 37) (by kernel_rfl) rfl (by first | (simp [Region.wanted, yielded]; done) | simp [Region.wanted, yielded, undef]) ?_
  go_simp
  refine Onward.on ⟨⟨hS.1.1.call (bel1 _ _), hS.1.2.call (bel1 _ _)⟩, ⟨(hS.2.1.1.below (bel1 _ _)).more (bel1 _ _).size, (hS.2.1.2.below (bel1 _ _)).more (bel1 _ _).size⟩, hS.2.2.trans ((bel1 _ _).mono hS.2.2.size)⟩ (fun hS2 => ?_)
  clear hS
  have hS := hS2
  clear hS2
  try simp only [Act.put, List.getElem_toArray, List.getElem_cons_succ, List.getElem_cons_zero, List.setIfInBounds_toArray, List.set_cons_zero, List.set_cons_succ]
  refine AnyG.oneC (i := 38) (by kernel_rfl) rfl (by first | (simp [Region.wanted, yielded]; done) | simp [Region.wanted, yielded, undef]) ?_
  go_simp
  refine (equalRanges_any A5 2 c5 (some ⟨y36.heap.size, 0, none⟩) 2 2 [(90, 100), (240, 250)] [(90, 100), (240, 250)] _ (by omega) (by omega) rfl rfl hS.2.1.2 (rng2 _ _ _ _ _)).mono ?_
  rintro e38 y38 ⟨rfl, hb78⟩
  rw [show decide (([(90, 100), (240, 250)] : List (Int × Int)) = [(90, 100), (240, 250)]) = true from rfl]
  refine Onward.on ⟨⟨hS.1.1.call (hb78), hS.1.2.call (hb78)⟩, ⟨(hS.2.1.1.below (hb78)).more (hb78).size, (hS.2.1.2.below (hb78)).more (hb78).size⟩, hS.2.2.trans ((hb78).mono hS.2.2.size)⟩ (fun hS2 => ?_)
  clear hS
  have hS := hS2
  clear hS2
  try simp only [Act.put, List.getElem_toArray, List.getElem_cons_succ, List.getElem_cons_zero, List.setIfInBounds_toArray, List.set_cons_zero, List.set_cons_succ]
  refine AnyG.takeC (i := 39) (v := ?_) rfl (by kernel_rfl) (fun _ _ _ h => h) rfl ?_ hS ?_
  rotate_left
  · (intro w' hSw; (try dsimp only at hSw); go_simp; try with_reducible rfl)
  try simp only [Act.put, List.getElem_toArray, List.getElem_cons_succ, List.getElem_cons_zero, List.setIfInBounds_toArray, List.set_cons_zero, List.set_cons_succ]
  refine AnyG.one (i := 40) (by kernel_rfl) rfl rfl ?_
  go_simp
  refine Onward.on hS (fun hS2 => ?_)
  clear hS
  have hS := hS2
  clear hS2
  try simp only [Act.put, List.getElem_toArray, List.getElem_cons_succ, List.getElem_cons_zero, List.setIfInBounds_toArray, List.set_cons_zero, List.set_cons_succ]
  refine AnyG.done (by kernel_rfl) ?_ _
  have hE := hS.2.2
  clear hS
  go_wp2_with fail
  go_ret
  exact ⟨rfl, hE⟩
end Go.Proofs.YtdlohfglmagneaaDoor
