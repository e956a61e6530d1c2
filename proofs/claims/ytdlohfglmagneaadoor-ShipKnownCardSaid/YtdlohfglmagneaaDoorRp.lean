/- slices.Repeat of one number, at most six times. -/
import Derived.Test.YtdlohfglmagneaaDoorTaM
set_option linter.unusedSimpArgs false
set_option linter.unusedVariables false
namespace Go.Proofs.YtdlohfglmagneaaDoor
open Go Go.RowKit
set_option maxRecDepth 100000 in
set_option maxHeartbeats 1000000 in
theorem mul64_one (n : Nat) (w : World) (hn : n ≤ 6) : Calls Tryd.prog 59 #[.int .u64 1, .int .u64 n] w fun e w' => e = .returned (.tuple #[.int .u64 0, .int .u64 n]) ∧ w' = w := by
  rcases (show n = 0 ∨ n = 1 ∨ n = 2 ∨ n = 3 ∨ n = 4 ∨ n = 5 ∨ n = 6 by omega) with rfl | rfl | rfl | rfl | rfl | rfl | rfl
  all_goals
    go_enter Tryd.func59, Tryd.ntmps59
    go_wp2
    refine bodyPost_ret (v := .tuple #[.int .u64 0, .int .u64 _]) (by kernel_rfl) rfl ⟨rfl, rfl⟩
set_option maxRecDepth 100000 in
set_option maxHeartbeats 1000000 in
theorem mul_one' (n : Nat) (w : World) (hn : n ≤ 6) : Calls Tryd.prog 55 #[.int .u64 1, .int .u64 n] w fun e w' => e = .returned (.tuple #[.int .u64 0, .int .u64 n]) ∧ w' = w := by
  go_enter Tryd.func55, Tryd.ntmps55
  go_wp2_with (first | (go_at_call 59; refine (mul64_one n _ hn).mono ?_; rintro e w' ⟨rfl, rfl⟩) | fail)
  exact bodyPost_ret (v := .tuple #[.int .u64 0, .int .u64 n]) (by simp [results, Tryd.results55, go_sem]) rfl ⟨rfl, rfl⟩
/-- n numbers of which the first m are -1. -/
def fil (n m : Nat) : Array Value := (List.replicate m (Value.int .i64 (-1)) ++ List.replicate (n - m) (Value.int .i64 0)).toArray
theorem run_make_n' {P : Program} (t e : TypeId) (i : TypeInfo) (z : Value) (ht : P.underlying t = some (.slice e)) (hi : P.info? e = some i) (hz : i.zero = some z) (n : Nat) (hb : (i.bytes : Int) * n ≤ 281474976710656) (hn : n ≤ 1000000) (w : World) :
    (Instr.makeSlice t (.int .i64 (n : Int)) (.int .i64 (n : Int))).run P w = .ok (.slice (some ⟨w.heap.size, 0, none⟩) n n) (w.alloc (.cells (madeCells z.cells (n * i.size)) e)) := by
  have h := run_make (P := P) w t e i z ht hi hz .i64 .i64 (n : Int) (n : Int) (by omega) (by omega) hb (by omega)
  simpa using h
theorem make27 (n : Nat) (hn : n ≤ 6) (w : World) : (Instr.makeSlice 39 (.int .i64 (n : Int)) (.int .i64 (n : Int))).run Tryd.prog w = .ok (.slice (some ⟨w.heap.size, 0, none⟩) n n) (w.alloc (.cells (fil n 0) 3)) := by
  obtain ⟨i0, hi, hz0, hz1, hz2⟩ := info_parts info3'
  have h := run_make_n' (P := Tryd.prog) 39 3 i0 _ Tryd.underlying39 hi hz0 n (by rw [hz2]; omega) (by omega) w
  have e : madeCells (Value.int .i64 0).cells n = fil n 0 := by
    rcases (show n = 0 ∨ n = 1 ∨ n = 2 ∨ n = 3 ∨ n = 4 ∨ n = 5 ∨ n = 6 by omega) with rfl | rfl | rfl | rfl | rfl | rfl | rfl <;> kernel_rfl
  rw [h, hz1, Nat.mul_one, e]
theorem size3 : (Tryd.prog.info? 3).map (·.size) = some 1 := by kernel_rfl
theorem cp_first (n : Nat) (h1 : 1 ≤ n) (hn : n ≤ 6) (c : Nat) {g b : Nat} {W : World} (hg : Bx W g 3 (fil n 0)) (hb : Bx W b 3 #[.int .i64 (-1)]) : (Builtin.copy_ #[39, 39] 3 #[.slice (some ⟨g, 0, none⟩) n n, .slice (some ⟨b, 0, none⟩) 1 c]).run Tryd.prog W = .ok (.int .i64 1) (W.setRow g (fil n 1)) := by
  have h := run_copy_row (P := Tryd.prog) W 39 39 3 3 g 0 n n ⟨b, 0, none⟩ 1 c (fil n 0) 3 [.int .i64 (-1)] Tryd.underlying39 size3 hg (by show 1 = min 1 n; omega) (bx_news hb) (by simp [fil]; omega) (by simp [Value.oneCell'])
  rw [h]
  rcases (show n = 0 ∨ n = 1 ∨ n = 2 ∨ n = 3 ∨ n = 4 ∨ n = 5 ∨ n = 6 by omega) with rfl | rfl | rfl | rfl | rfl | rfl | rfl
  · omega
  all_goals rfl
theorem cp_next (n m : Nat) (h1 : 1 ≤ m) (h2 : m < n) (hn : n ≤ 6) {g : Nat} {W : World} (hg : Bx W g 3 (fil n m)) : (Builtin.copy_ #[39, 39] 3 #[.slice (some ⟨g, m, none⟩) (n - m) (n - m), .slice (some ⟨g, 0, none⟩) m n]).run Tryd.prog W = .ok (.int .i64 (min m (n - m) : Nat)) (W.setRow g (fil n (m + min m (n - m)))) := by
  have hsrc : ∀ j v, (List.replicate (min m (n - m)) (Value.int .i64 (-1)))[j]? = some v → W.cell? ((⟨g, 0, none⟩ : Addr).add j) = some v := by
    intro j v hj
    obtain ⟨hjl, e⟩ := List.getElem?_eq_some_iff.1 hj
    simp at hjl e
    have e2 : (⟨g, 0, none⟩ : Addr).add j = ⟨g, j, none⟩ := by unfold Addr.add; split <;> simp_all
    rw [e2, hg.cell, ← e]
    unfold fil
    rw [List.getElem?_toArray, List.getElem?_append_left (by simp; omega), List.getElem?_replicate, if_pos (by omega)]
  have h := run_copy_row (P := Tryd.prog) W 39 39 3 3 g m (n - m) (n - m) ⟨g, 0, none⟩ m n (fil n m) 3 (List.replicate (min m (n - m)) (.int .i64 (-1))) Tryd.underlying39 size3 hg (by simp) hsrc (by simp [fil]; omega) (by intro v hv; rw [List.eq_of_mem_replicate hv]; rfl)
  have e : ((fil n m).toList.take m ++ List.replicate (min m (n - m)) (Value.int .i64 (-1)) ++ (fil n m).toList.drop (m + (List.replicate (min m (n - m)) (Value.int .i64 (-1))).length)).toArray = fil n (m + min m (n - m)) := by
    rcases (show m = 1 ∨ m = 2 ∨ m = 3 ∨ m = 4 ∨ m = 5 by omega) with rfl | rfl | rfl | rfl | rfl <;> rcases (show n = 0 ∨ n = 1 ∨ n = 2 ∨ n = 3 ∨ n = 4 ∨ n = 5 ∨ n = 6 by omega) with rfl | rfl | rfl | rfl | rfl | rfl | rfl <;> first | omega | kernel_rfl
  rw [h, e]
  simp [goInt]
theorem fil_own {W : World} {g base n : Nat} (h : Bx W g 3 (fil n n)) (hb : base ≤ g) (hn : n ≤ 6) : W.ownsRow base 3 1 (.slice (some ⟨g, 0, none⟩) n n) n (inr (List.replicate n (-1))).flatten := by
  have e : (inr (List.replicate n (-1))).flatten = (fil n n).toList := by
    unfold inr fil
    simp
  rw [e]
  exact ⟨by simp [fil], .inr ⟨g, n, fil n n, rfl, hb, h, Nat.le_refl _, by unfold maxLen; omega, by simp [fil], by rw [List.take_of_length_le (by simp [fil])]⟩⟩
set_option maxRecDepth 100000 in
set_option maxHeartbeats 1000000 in
theorem repeat_1 (b c : Nat) (w : World) (hb : Bx w b 3 #[.int .i64 (-1)]) : Calls Tryd.prog 49 #[.slice (some ⟨b, 0, none⟩) 1 c, .int .i64 1] w fun e w' => (∃ A c', e = .returned (.slice (some A) 1 c') ∧ w'.ownsRow w.heap.size 3 1 (.slice (some A) 1 c') 1 (inr (List.replicate 1 (-1))).flatten) ∧ Below w.heap.size w w' := by
  obtain ⟨x0, xf, xz⟩ := hb.one
  have hmk := make27 1 (by omega)
  rw [show (((1 : Nat) : Int)) = 1 from rfl] at hmk
  go_enter Tryd.func49, Tryd.ntmps49
  go_wp2_with (first | (go_at_call 55; refine (mul_one' 1 _ (by omega)).mono ?_; rintro e w' ⟨rfl, rfl⟩; have hcp := cp_first 1 (by omega) (by omega) c (Bx.new w' 3 (fil 1 0)) (hb.alloc (.cells (fil 1 0) 3))) | fail)
  have kg := (Bx.new w' 3 (fil 1 0)).row (cs' := fil 1 1)
  have hB := (((Below.refl w'.heap.size w').alloc (Nat.le_refl _) (.cells (fil 1 0) 3)).setRow (g := w'.heap.size) (Nat.le_refl _) (fil 1 1))
  clear hcp hmk x0 xf xz
  go_loopw [8] (fun mv wr => ∃ k : Nat, (k = 1) ∧ mv = .int .i64 k ∧ Bx wr w'.heap.size 3 (fil 1 k) ∧ Below w'.heap.size w' wr) (fun mv _ => 1 - (intOf mv).toNat)
  case atStart => exact ⟨1, by omega, rfl, kg, hB⟩
  case round =>
    clear kg hB
    obtain ⟨k, hk, rfl, kg, hB⟩ := hrel
    rcases hk with rfl
    · go_wp2_with fail
      go_ret
      exact ⟨⟨⟨w'.heap.size, 0, none⟩, 1, rfl, fil_own kg (Nat.le_refl _) (by omega)⟩, hB⟩
set_option maxRecDepth 100000 in
set_option maxHeartbeats 1000000 in
theorem repeat_2 (b c : Nat) (w : World) (hb : Bx w b 3 #[.int .i64 (-1)]) : Calls Tryd.prog 49 #[.slice (some ⟨b, 0, none⟩) 1 c, .int .i64 2] w fun e w' => (∃ A c', e = .returned (.slice (some A) 2 c') ∧ w'.ownsRow w.heap.size 3 1 (.slice (some A) 2 c') 2 (inr (List.replicate 2 (-1))).flatten) ∧ Below w.heap.size w w' := by
  obtain ⟨x0, xf, xz⟩ := hb.one
  have hmk := make27 2 (by omega)
  rw [show (((2 : Nat) : Int)) = 2 from rfl] at hmk
  go_enter Tryd.func49, Tryd.ntmps49
  go_wp2_with (first | (go_at_call 55; refine (mul_one' 2 _ (by omega)).mono ?_; rintro e w' ⟨rfl, rfl⟩; have hcp := cp_first 2 (by omega) (by omega) c (Bx.new w' 3 (fil 2 0)) (hb.alloc (.cells (fil 2 0) 3))) | fail)
  have kg := (Bx.new w' 3 (fil 2 0)).row (cs' := fil 2 1)
  have hB := (((Below.refl w'.heap.size w').alloc (Nat.le_refl _) (.cells (fil 2 0) 3)).setRow (g := w'.heap.size) (Nat.le_refl _) (fil 2 1))
  clear hcp hmk x0 xf xz
  go_loopw [8] (fun mv wr => ∃ k : Nat, (k = 1 ∨ k = 2) ∧ mv = .int .i64 k ∧ Bx wr w'.heap.size 3 (fil 2 k) ∧ Below w'.heap.size w' wr) (fun mv _ => 2 - (intOf mv).toNat)
  case atStart => exact ⟨1, by omega, rfl, kg, hB⟩
  case round =>
    clear kg hB
    obtain ⟨k, hk, rfl, kg, hB⟩ := hrel
    rcases hk with rfl | rfl
    · go_wp2_with fail
      refine AnyG.startC (by kernel_rfl) ?_
      refine AnyG.takeP (i := 0) (v := ?_) rfl (by kernel_rfl) (fun _ _ _ h => h) rfl ?_ ?_
      rotate_left
      · (intro w'; go_simp; try with_reducible rfl)
      try simp only [Act.put, List.getElem_toArray, List.getElem_cons_succ, List.getElem_cons_zero, List.setIfInBounds_toArray, List.set_cons_zero, List.set_cons_succ]
      refine AnyG.takeP (i := 1) (v := ?_) rfl (by kernel_rfl) (fun _ _ _ h => h) rfl ?_ ?_
      rotate_left
      · (intro w'; go_simp; try with_reducible rfl)
      try simp only [Act.put, List.getElem_toArray, List.getElem_cons_succ, List.getElem_cons_zero, List.setIfInBounds_toArray, List.set_cons_zero, List.set_cons_succ]
      refine AnyG.takeP (i := 2) (v := ?_) rfl (by kernel_rfl) (fun _ _ _ h => h) rfl ?_ ?_
      rotate_left
      · (intro w'; go_simp; try with_reducible rfl)
      try simp only [Act.put, List.getElem_toArray, List.getElem_cons_succ, List.getElem_cons_zero, List.setIfInBounds_toArray, List.set_cons_zero, List.set_cons_succ]
      refine AnyG.takeP (i := 3) (v := ?_) rfl (by kernel_rfl) (fun _ _ _ h => h) rfl ?_ ?_
      rotate_left
      · (intro w'; go_simp; try with_reducible rfl)
      try simp only [Act.put, List.getElem_toArray, List.getElem_cons_succ, List.getElem_cons_zero, List.setIfInBounds_toArray, List.set_cons_zero, List.set_cons_succ]
      refine AnyG.takeP (i := 4) (v := ?_) rfl (by kernel_rfl) (fun _ _ _ h => h) rfl ?_ ?_
      rotate_left
      · (intro w'; go_simp; try with_reducible rfl)
      try simp only [Act.put, List.getElem_toArray, List.getElem_cons_succ, List.getElem_cons_zero, List.setIfInBounds_toArray, List.set_cons_zero, List.set_cons_succ]
      refine AnyG.takeP (i := 5) (v := ?_) rfl (by kernel_rfl) (fun _ _ _ h => h) rfl ?_ ?_
      rotate_left
      · (intro w'; go_simp; try with_reducible rfl)
      try simp only [Act.put, List.getElem_toArray, List.getElem_cons_succ, List.getElem_cons_zero, List.setIfInBounds_toArray, List.set_cons_zero, List.set_cons_succ]
      refine AnyG.takeP (i := 6) (v := ?_) rfl (by kernel_rfl) (fun _ _ _ h => h) rfl ?_ ?_
      rotate_left
      · (intro w'; go_simp; try with_reducible rfl)
      try simp only [Act.put, List.getElem_toArray, List.getElem_cons_succ, List.getElem_cons_zero, List.setIfInBounds_toArray, List.set_cons_zero, List.set_cons_succ]
      refine AnyG.enter (fun x : World => Below w'.heap.size w' x) (fun i => true) ?_
      have hS : (fun x : World => Below w'.heap.size w' x) (World.drew _) := hB.drew
      refine AnyG.one (i := 7) (by kernel_rfl) rfl rfl ?_
      have hcp : (Builtin.copy_ #[39, 39] 3 #[.slice (some ⟨w'.heap.size, 1, none⟩) 1 1, .slice (some ⟨w'.heap.size, 0, none⟩) 1 2]).run Tryd.prog wr.drew = .ok (.int .i64 1) (wr.drew.setRow w'.heap.size (fil 2 2)) := cp_next 2 1 (by omega) (by omega) (by omega) kg.drew
      go_simp
      clear hcp
      refine Onward.on (hS.setRow (Nat.le_refl _) _) (fun hS2 => ?_)
      clear hS
      have hS := hS2
      clear hS2
      try simp only [Act.put, List.getElem_toArray, List.getElem_cons_succ, List.getElem_cons_zero, List.setIfInBounds_toArray, List.set_cons_zero, List.set_cons_succ]
      refine AnyG.takeC (i := 8) (v := ?_) rfl (by kernel_rfl) (fun _ _ _ h => h) rfl ?_ hS ?_
      rotate_left
      · (intro w' hSw; (try dsimp only at hSw); go_simp; try with_reducible rfl)
      try simp only [Act.put, List.getElem_toArray, List.getElem_cons_succ, List.getElem_cons_zero, List.setIfInBounds_toArray, List.set_cons_zero, List.set_cons_succ]
      refine AnyG.one (i := 9) (by kernel_rfl) rfl rfl ?_
      go_simp
      refine Onward.on hS (fun hS2 => ?_)
      clear hS
      have hS := hS2
      clear hS2
      try simp only [Act.put, List.getElem_toArray, List.getElem_cons_succ, List.getElem_cons_zero, List.setIfInBounds_toArray, List.set_cons_zero, List.set_cons_succ]
      refine AnyG.done (by kernel_rfl) ?_ _
      clear hS
      go_wp2_with fail
      go_roundw
      case rel => exact ⟨2, by omega, by go_num, kg.drew.row, hB.drew.setRow (Nat.le_refl _) _⟩
      case measure => first | (simp [intOf]; done) | (simp [intOf]; decide)
    · go_wp2_with fail
      go_ret
      exact ⟨⟨⟨w'.heap.size, 0, none⟩, 2, rfl, fil_own kg (Nat.le_refl _) (by omega)⟩, hB⟩
set_option maxRecDepth 100000 in
set_option maxHeartbeats 1000000 in
theorem repeat_3 (b c : Nat) (w : World) (hb : Bx w b 3 #[.int .i64 (-1)]) : Calls Tryd.prog 49 #[.slice (some ⟨b, 0, none⟩) 1 c, .int .i64 3] w fun e w' => (∃ A c', e = .returned (.slice (some A) 3 c') ∧ w'.ownsRow w.heap.size 3 1 (.slice (some A) 3 c') 3 (inr (List.replicate 3 (-1))).flatten) ∧ Below w.heap.size w w' := by
  obtain ⟨x0, xf, xz⟩ := hb.one
  have hmk := make27 3 (by omega)
  rw [show (((3 : Nat) : Int)) = 3 from rfl] at hmk
  go_enter Tryd.func49, Tryd.ntmps49
  go_wp2_with (first | (go_at_call 55; refine (mul_one' 3 _ (by omega)).mono ?_; rintro e w' ⟨rfl, rfl⟩; have hcp := cp_first 3 (by omega) (by omega) c (Bx.new w' 3 (fil 3 0)) (hb.alloc (.cells (fil 3 0) 3))) | fail)
  have kg := (Bx.new w' 3 (fil 3 0)).row (cs' := fil 3 1)
  have hB := (((Below.refl w'.heap.size w').alloc (Nat.le_refl _) (.cells (fil 3 0) 3)).setRow (g := w'.heap.size) (Nat.le_refl _) (fil 3 1))
  clear hcp hmk x0 xf xz
  go_loopw [8] (fun mv wr => ∃ k : Nat, (k = 1 ∨ k = 2 ∨ k = 3) ∧ mv = .int .i64 k ∧ Bx wr w'.heap.size 3 (fil 3 k) ∧ Below w'.heap.size w' wr) (fun mv _ => 3 - (intOf mv).toNat)
  case atStart => exact ⟨1, by omega, rfl, kg, hB⟩
  case round =>
    clear kg hB
    obtain ⟨k, hk, rfl, kg, hB⟩ := hrel
    rcases hk with rfl | rfl | rfl
    · go_wp2_with fail
      refine AnyG.startC (by kernel_rfl) ?_
      refine AnyG.takeP (i := 0) (v := ?_) rfl (by kernel_rfl) (fun _ _ _ h => h) rfl ?_ ?_
      rotate_left
      · (intro w'; go_simp; try with_reducible rfl)
      try simp only [Act.put, List.getElem_toArray, List.getElem_cons_succ, List.getElem_cons_zero, List.setIfInBounds_toArray, List.set_cons_zero, List.set_cons_succ]
      refine AnyG.takeP (i := 1) (v := ?_) rfl (by kernel_rfl) (fun _ _ _ h => h) rfl ?_ ?_
      rotate_left
      · (intro w'; go_simp; try with_reducible rfl)
      try simp only [Act.put, List.getElem_toArray, List.getElem_cons_succ, List.getElem_cons_zero, List.setIfInBounds_toArray, List.set_cons_zero, List.set_cons_succ]
      refine AnyG.takeP (i := 2) (v := ?_) rfl (by kernel_rfl) (fun _ _ _ h => h) rfl ?_ ?_
      rotate_left
      · (intro w'; go_simp; try with_reducible rfl)
      try simp only [Act.put, List.getElem_toArray, List.getElem_cons_succ, List.getElem_cons_zero, List.setIfInBounds_toArray, List.set_cons_zero, List.set_cons_succ]
      refine AnyG.takeP (i := 3) (v := ?_) rfl (by kernel_rfl) (fun _ _ _ h => h) rfl ?_ ?_
      rotate_left
      · (intro w'; go_simp; try with_reducible rfl)
      try simp only [Act.put, List.getElem_toArray, List.getElem_cons_succ, List.getElem_cons_zero, List.setIfInBounds_toArray, List.set_cons_zero, List.set_cons_succ]
      refine AnyG.takeP (i := 4) (v := ?_) rfl (by kernel_rfl) (fun _ _ _ h => h) rfl ?_ ?_
      rotate_left
      · (intro w'; go_simp; try with_reducible rfl)
      try simp only [Act.put, List.getElem_toArray, List.getElem_cons_succ, List.getElem_cons_zero, List.setIfInBounds_toArray, List.set_cons_zero, List.set_cons_succ]
      refine AnyG.takeP (i := 5) (v := ?_) rfl (by kernel_rfl) (fun _ _ _ h => h) rfl ?_ ?_
      rotate_left
      · (intro w'; go_simp; try with_reducible rfl)
      try simp only [Act.put, List.getElem_toArray, List.getElem_cons_succ, List.getElem_cons_zero, List.setIfInBounds_toArray, List.set_cons_zero, List.set_cons_succ]
      refine AnyG.takeP (i := 6) (v := ?_) rfl (by kernel_rfl) (fun _ _ _ h => h) rfl ?_ ?_
      rotate_left
      · (intro w'; go_simp; try with_reducible rfl)
      try simp only [Act.put, List.getElem_toArray, List.getElem_cons_succ, List.getElem_cons_zero, List.setIfInBounds_toArray, List.set_cons_zero, List.set_cons_succ]
      refine AnyG.enter (fun x : World => Below w'.heap.size w' x) (fun i => true) ?_
      have hS : (fun x : World => Below w'.heap.size w' x) (World.drew _) := hB.drew
      refine AnyG.one (i := 7) (by kernel_rfl) rfl rfl ?_
      have hcp : (Builtin.copy_ #[39, 39] 3 #[.slice (some ⟨w'.heap.size, 1, none⟩) 2 2, .slice (some ⟨w'.heap.size, 0, none⟩) 1 3]).run Tryd.prog wr.drew = .ok (.int .i64 1) (wr.drew.setRow w'.heap.size (fil 3 2)) := cp_next 3 1 (by omega) (by omega) (by omega) kg.drew
      go_simp
      clear hcp
      refine Onward.on (hS.setRow (Nat.le_refl _) _) (fun hS2 => ?_)
      clear hS
      have hS := hS2
      clear hS2
      try simp only [Act.put, List.getElem_toArray, List.getElem_cons_succ, List.getElem_cons_zero, List.setIfInBounds_toArray, List.set_cons_zero, List.set_cons_succ]
      refine AnyG.takeC (i := 8) (v := ?_) rfl (by kernel_rfl) (fun _ _ _ h => h) rfl ?_ hS ?_
      rotate_left
      · (intro w' hSw; (try dsimp only at hSw); go_simp; try with_reducible rfl)
      try simp only [Act.put, List.getElem_toArray, List.getElem_cons_succ, List.getElem_cons_zero, List.setIfInBounds_toArray, List.set_cons_zero, List.set_cons_succ]
      refine AnyG.one (i := 9) (by kernel_rfl) rfl rfl ?_
      go_simp
      refine Onward.on hS (fun hS2 => ?_)
      clear hS
      have hS := hS2
      clear hS2
      try simp only [Act.put, List.getElem_toArray, List.getElem_cons_succ, List.getElem_cons_zero, List.setIfInBounds_toArray, List.set_cons_zero, List.set_cons_succ]
      refine AnyG.done (by kernel_rfl) ?_ _
      clear hS
      go_wp2_with fail
      go_roundw
      case rel => exact ⟨2, by omega, by go_num, kg.drew.row, hB.drew.setRow (Nat.le_refl _) _⟩
      case measure => first | (simp [intOf]; done) | (simp [intOf]; decide)
    · go_wp2_with fail
      refine AnyG.startC (by kernel_rfl) ?_
      refine AnyG.takeP (i := 0) (v := ?_) rfl (by kernel_rfl) (fun _ _ _ h => h) rfl ?_ ?_
      rotate_left
      · (intro w'; go_simp; try with_reducible rfl)
      try simp only [Act.put, List.getElem_toArray, List.getElem_cons_succ, List.getElem_cons_zero, List.setIfInBounds_toArray, List.set_cons_zero, List.set_cons_succ]
      refine AnyG.takeP (i := 1) (v := ?_) rfl (by kernel_rfl) (fun _ _ _ h => h) rfl ?_ ?_
      rotate_left
      · (intro w'; go_simp; try with_reducible rfl)
      try simp only [Act.put, List.getElem_toArray, List.getElem_cons_succ, List.getElem_cons_zero, List.setIfInBounds_toArray, List.set_cons_zero, List.set_cons_succ]
      refine AnyG.takeP (i := 2) (v := ?_) rfl (by kernel_rfl) (fun _ _ _ h => h) rfl ?_ ?_
      rotate_left
      · (intro w'; go_simp; try with_reducible rfl)
      try simp only [Act.put, List.getElem_toArray, List.getElem_cons_succ, List.getElem_cons_zero, List.setIfInBounds_toArray, List.set_cons_zero, List.set_cons_succ]
      refine AnyG.takeP (i := 3) (v := ?_) rfl (by kernel_rfl) (fun _ _ _ h => h) rfl ?_ ?_
      rotate_left
      · (intro w'; go_simp; try with_reducible rfl)
      try simp only [Act.put, List.getElem_toArray, List.getElem_cons_succ, List.getElem_cons_zero, List.setIfInBounds_toArray, List.set_cons_zero, List.set_cons_succ]
      refine AnyG.takeP (i := 4) (v := ?_) rfl (by kernel_rfl) (fun _ _ _ h => h) rfl ?_ ?_
      rotate_left
      · (intro w'; go_simp; try with_reducible rfl)
      try simp only [Act.put, List.getElem_toArray, List.getElem_cons_succ, List.getElem_cons_zero, List.setIfInBounds_toArray, List.set_cons_zero, List.set_cons_succ]
      refine AnyG.takeP (i := 5) (v := ?_) rfl (by kernel_rfl) (fun _ _ _ h => h) rfl ?_ ?_
      rotate_left
      · (intro w'; go_simp; try with_reducible rfl)
      try simp only [Act.put, List.getElem_toArray, List.getElem_cons_succ, List.getElem_cons_zero, List.setIfInBounds_toArray, List.set_cons_zero, List.set_cons_succ]
      refine AnyG.takeP (i := 6) (v := ?_) rfl (by kernel_rfl) (fun _ _ _ h => h) rfl ?_ ?_
      rotate_left
      · (intro w'; go_simp; try with_reducible rfl)
      try simp only [Act.put, List.getElem_toArray, List.getElem_cons_succ, List.getElem_cons_zero, List.setIfInBounds_toArray, List.set_cons_zero, List.set_cons_succ]
      refine AnyG.enter (fun x : World => Below w'.heap.size w' x) (fun i => true) ?_
      have hS : (fun x : World => Below w'.heap.size w' x) (World.drew _) := hB.drew
      refine AnyG.one (i := 7) (by kernel_rfl) rfl rfl ?_
      have hcp : (Builtin.copy_ #[39, 39] 3 #[.slice (some ⟨w'.heap.size, 2, none⟩) 1 1, .slice (some ⟨w'.heap.size, 0, none⟩) 2 3]).run Tryd.prog wr.drew = .ok (.int .i64 1) (wr.drew.setRow w'.heap.size (fil 3 3)) := cp_next 3 2 (by omega) (by omega) (by omega) kg.drew
      go_simp
      clear hcp
      refine Onward.on (hS.setRow (Nat.le_refl _) _) (fun hS2 => ?_)
      clear hS
      have hS := hS2
      clear hS2
      try simp only [Act.put, List.getElem_toArray, List.getElem_cons_succ, List.getElem_cons_zero, List.setIfInBounds_toArray, List.set_cons_zero, List.set_cons_succ]
      refine AnyG.takeC (i := 8) (v := ?_) rfl (by kernel_rfl) (fun _ _ _ h => h) rfl ?_ hS ?_
      rotate_left
      · (intro w' hSw; (try dsimp only at hSw); go_simp; try with_reducible rfl)
      try simp only [Act.put, List.getElem_toArray, List.getElem_cons_succ, List.getElem_cons_zero, List.setIfInBounds_toArray, List.set_cons_zero, List.set_cons_succ]
      refine AnyG.one (i := 9) (by kernel_rfl) rfl rfl ?_
      go_simp
      refine Onward.on hS (fun hS2 => ?_)
      clear hS
      have hS := hS2
      clear hS2
      try simp only [Act.put, List.getElem_toArray, List.getElem_cons_succ, List.getElem_cons_zero, List.setIfInBounds_toArray, List.set_cons_zero, List.set_cons_succ]
      refine AnyG.done (by kernel_rfl) ?_ _
      clear hS
      go_wp2_with fail
      go_roundw
      case rel => exact ⟨3, by omega, by go_num, kg.drew.row, hB.drew.setRow (Nat.le_refl _) _⟩
      case measure => first | (simp [intOf]; done) | (simp [intOf]; decide)
    · go_wp2_with fail
      go_ret
      exact ⟨⟨⟨w'.heap.size, 0, none⟩, 3, rfl, fil_own kg (Nat.le_refl _) (by omega)⟩, hB⟩
set_option maxRecDepth 100000 in
set_option maxHeartbeats 1000000 in
theorem repeat_4 (b c : Nat) (w : World) (hb : Bx w b 3 #[.int .i64 (-1)]) : Calls Tryd.prog 49 #[.slice (some ⟨b, 0, none⟩) 1 c, .int .i64 4] w fun e w' => (∃ A c', e = .returned (.slice (some A) 4 c') ∧ w'.ownsRow w.heap.size 3 1 (.slice (some A) 4 c') 4 (inr (List.replicate 4 (-1))).flatten) ∧ Below w.heap.size w w' := by
  obtain ⟨x0, xf, xz⟩ := hb.one
  have hmk := make27 4 (by omega)
  rw [show (((4 : Nat) : Int)) = 4 from rfl] at hmk
  go_enter Tryd.func49, Tryd.ntmps49
  go_wp2_with (first | (go_at_call 55; refine (mul_one' 4 _ (by omega)).mono ?_; rintro e w' ⟨rfl, rfl⟩; have hcp := cp_first 4 (by omega) (by omega) c (Bx.new w' 3 (fil 4 0)) (hb.alloc (.cells (fil 4 0) 3))) | fail)
  have kg := (Bx.new w' 3 (fil 4 0)).row (cs' := fil 4 1)
  have hB := (((Below.refl w'.heap.size w').alloc (Nat.le_refl _) (.cells (fil 4 0) 3)).setRow (g := w'.heap.size) (Nat.le_refl _) (fil 4 1))
  clear hcp hmk x0 xf xz
  go_loopw [8] (fun mv wr => ∃ k : Nat, (k = 1 ∨ k = 2 ∨ k = 4) ∧ mv = .int .i64 k ∧ Bx wr w'.heap.size 3 (fil 4 k) ∧ Below w'.heap.size w' wr) (fun mv _ => 4 - (intOf mv).toNat)
  case atStart => exact ⟨1, by omega, rfl, kg, hB⟩
  case round =>
    clear kg hB
    obtain ⟨k, hk, rfl, kg, hB⟩ := hrel
    rcases hk with rfl | rfl | rfl
    · go_wp2_with fail
      refine AnyG.startC (by kernel_rfl) ?_
      refine AnyG.takeP (i := 0) (v := ?_) rfl (by kernel_rfl) (fun _ _ _ h => h) rfl ?_ ?_
      rotate_left
      · (intro w'; go_simp; try with_reducible rfl)
      try simp only [Act.put, List.getElem_toArray, List.getElem_cons_succ, List.getElem_cons_zero, List.setIfInBounds_toArray, List.set_cons_zero, List.set_cons_succ]
      refine AnyG.takeP (i := 1) (v := ?_) rfl (by kernel_rfl) (fun _ _ _ h => h) rfl ?_ ?_
      rotate_left
      · (intro w'; go_simp; try with_reducible rfl)
      try simp only [Act.put, List.getElem_toArray, List.getElem_cons_succ, List.getElem_cons_zero, List.setIfInBounds_toArray, List.set_cons_zero, List.set_cons_succ]
      refine AnyG.takeP (i := 2) (v := ?_) rfl (by kernel_rfl) (fun _ _ _ h => h) rfl ?_ ?_
      rotate_left
      · (intro w'; go_simp; try with_reducible rfl)
      try simp only [Act.put, List.getElem_toArray, List.getElem_cons_succ, List.getElem_cons_zero, List.setIfInBounds_toArray, List.set_cons_zero, List.set_cons_succ]
      refine AnyG.takeP (i := 3) (v := ?_) rfl (by kernel_rfl) (fun _ _ _ h => h) rfl ?_ ?_
      rotate_left
      · (intro w'; go_simp; try with_reducible rfl)
      try simp only [Act.put, List.getElem_toArray, List.getElem_cons_succ, List.getElem_cons_zero, List.setIfInBounds_toArray, List.set_cons_zero, List.set_cons_succ]
      refine AnyG.takeP (i := 4) (v := ?_) rfl (by kernel_rfl) (fun _ _ _ h => h) rfl ?_ ?_
      rotate_left
      · (intro w'; go_simp; try with_reducible rfl)
      try simp only [Act.put, List.getElem_toArray, List.getElem_cons_succ, List.getElem_cons_zero, List.setIfInBounds_toArray, List.set_cons_zero, List.set_cons_succ]
      refine AnyG.takeP (i := 5) (v := ?_) rfl (by kernel_rfl) (fun _ _ _ h => h) rfl ?_ ?_
      rotate_left
      · (intro w'; go_simp; try with_reducible rfl)
      try simp only [Act.put, List.getElem_toArray, List.getElem_cons_succ, List.getElem_cons_zero, List.setIfInBounds_toArray, List.set_cons_zero, List.set_cons_succ]
      refine AnyG.takeP (i := 6) (v := ?_) rfl (by kernel_rfl) (fun _ _ _ h => h) rfl ?_ ?_
      rotate_left
      · (intro w'; go_simp; try with_reducible rfl)
      try simp only [Act.put, List.getElem_toArray, List.getElem_cons_succ, List.getElem_cons_zero, List.setIfInBounds_toArray, List.set_cons_zero, List.set_cons_succ]
      refine AnyG.enter (fun x : World => Below w'.heap.size w' x) (fun i => true) ?_
      have hS : (fun x : World => Below w'.heap.size w' x) (World.drew _) := hB.drew
      refine AnyG.one (i := 7) (by kernel_rfl) rfl rfl ?_
      have hcp : (Builtin.copy_ #[39, 39] 3 #[.slice (some ⟨w'.heap.size, 1, none⟩) 3 3, .slice (some ⟨w'.heap.size, 0, none⟩) 1 4]).run Tryd.prog wr.drew = .ok (.int .i64 1) (wr.drew.setRow w'.heap.size (fil 4 2)) := cp_next 4 1 (by omega) (by omega) (by omega) kg.drew
      go_simp
      clear hcp
      refine Onward.on (hS.setRow (Nat.le_refl _) _) (fun hS2 => ?_)
      clear hS
      have hS := hS2
      clear hS2
      try simp only [Act.put, List.getElem_toArray, List.getElem_cons_succ, List.getElem_cons_zero, List.setIfInBounds_toArray, List.set_cons_zero, List.set_cons_succ]
      refine AnyG.takeC (i := 8) (v := ?_) rfl (by kernel_rfl) (fun _ _ _ h => h) rfl ?_ hS ?_
      rotate_left
      · (intro w' hSw; (try dsimp only at hSw); go_simp; try with_reducible rfl)
      try simp only [Act.put, List.getElem_toArray, List.getElem_cons_succ, List.getElem_cons_zero, List.setIfInBounds_toArray, List.set_cons_zero, List.set_cons_succ]
      refine AnyG.one (i := 9) (by kernel_rfl) rfl rfl ?_
      go_simp
      refine Onward.on hS (fun hS2 => ?_)
      clear hS
      have hS := hS2
      clear hS2
      try simp only [Act.put, List.getElem_toArray, List.getElem_cons_succ, List.getElem_cons_zero, List.setIfInBounds_toArray, List.set_cons_zero, List.set_cons_succ]
      refine AnyG.done (by kernel_rfl) ?_ _
      clear hS
      go_wp2_with fail
      go_roundw
      case rel => exact ⟨2, by omega, by go_num, kg.drew.row, hB.drew.setRow (Nat.le_refl _) _⟩
      case measure => first | (simp [intOf]; done) | (simp [intOf]; decide)
    · go_wp2_with fail
      refine AnyG.startC (by kernel_rfl) ?_
      refine AnyG.takeP (i := 0) (v := ?_) rfl (by kernel_rfl) (fun _ _ _ h => h) rfl ?_ ?_
      rotate_left
      · (intro w'; go_simp; try with_reducible rfl)
      try simp only [Act.put, List.getElem_toArray, List.getElem_cons_succ, List.getElem_cons_zero, List.setIfInBounds_toArray, List.set_cons_zero, List.set_cons_succ]
      refine AnyG.takeP (i := 1) (v := ?_) rfl (by kernel_rfl) (fun _ _ _ h => h) rfl ?_ ?_
      rotate_left
      · (intro w'; go_simp; try with_reducible rfl)
      try simp only [Act.put, List.getElem_toArray, List.getElem_cons_succ, List.getElem_cons_zero, List.setIfInBounds_toArray, List.set_cons_zero, List.set_cons_succ]
      refine AnyG.takeP (i := 2) (v := ?_) rfl (by kernel_rfl) (fun _ _ _ h => h) rfl ?_ ?_
      rotate_left
      · (intro w'; go_simp; try with_reducible rfl)
      try simp only [Act.put, List.getElem_toArray, List.getElem_cons_succ, List.getElem_cons_zero, List.setIfInBounds_toArray, List.set_cons_zero, List.set_cons_succ]
      refine AnyG.takeP (i := 3) (v := ?_) rfl (by kernel_rfl) (fun _ _ _ h => h) rfl ?_ ?_
      rotate_left
      · (intro w'; go_simp; try with_reducible rfl)
      try simp only [Act.put, List.getElem_toArray, List.getElem_cons_succ, List.getElem_cons_zero, List.setIfInBounds_toArray, List.set_cons_zero, List.set_cons_succ]
      refine AnyG.takeP (i := 4) (v := ?_) rfl (by kernel_rfl) (fun _ _ _ h => h) rfl ?_ ?_
      rotate_left
      · (intro w'; go_simp; try with_reducible rfl)
      try simp only [Act.put, List.getElem_toArray, List.getElem_cons_succ, List.getElem_cons_zero, List.setIfInBounds_toArray, List.set_cons_zero, List.set_cons_succ]
      refine AnyG.takeP (i := 5) (v := ?_) rfl (by kernel_rfl) (fun _ _ _ h => h) rfl ?_ ?_
      rotate_left
      · (intro w'; go_simp; try with_reducible rfl)
      try simp only [Act.put, List.getElem_toArray, List.getElem_cons_succ, List.getElem_cons_zero, List.setIfInBounds_toArray, List.set_cons_zero, List.set_cons_succ]
      refine AnyG.takeP (i := 6) (v := ?_) rfl (by kernel_rfl) (fun _ _ _ h => h) rfl ?_ ?_
      rotate_left
      · (intro w'; go_simp; try with_reducible rfl)
      try simp only [Act.put, List.getElem_toArray, List.getElem_cons_succ, List.getElem_cons_zero, List.setIfInBounds_toArray, List.set_cons_zero, List.set_cons_succ]
      refine AnyG.enter (fun x : World => Below w'.heap.size w' x) (fun i => true) ?_
      have hS : (fun x : World => Below w'.heap.size w' x) (World.drew _) := hB.drew
      refine AnyG.one (i := 7) (by kernel_rfl) rfl rfl ?_
      have hcp : (Builtin.copy_ #[39, 39] 3 #[.slice (some ⟨w'.heap.size, 2, none⟩) 2 2, .slice (some ⟨w'.heap.size, 0, none⟩) 2 4]).run Tryd.prog wr.drew = .ok (.int .i64 2) (wr.drew.setRow w'.heap.size (fil 4 4)) := cp_next 4 2 (by omega) (by omega) (by omega) kg.drew
      go_simp
      clear hcp
      refine Onward.on (hS.setRow (Nat.le_refl _) _) (fun hS2 => ?_)
      clear hS
      have hS := hS2
      clear hS2
      try simp only [Act.put, List.getElem_toArray, List.getElem_cons_succ, List.getElem_cons_zero, List.setIfInBounds_toArray, List.set_cons_zero, List.set_cons_succ]
      refine AnyG.takeC (i := 8) (v := ?_) rfl (by kernel_rfl) (fun _ _ _ h => h) rfl ?_ hS ?_
      rotate_left
      · (intro w' hSw; (try dsimp only at hSw); go_simp; try with_reducible rfl)
      try simp only [Act.put, List.getElem_toArray, List.getElem_cons_succ, List.getElem_cons_zero, List.setIfInBounds_toArray, List.set_cons_zero, List.set_cons_succ]
      refine AnyG.one (i := 9) (by kernel_rfl) rfl rfl ?_
      go_simp
      refine Onward.on hS (fun hS2 => ?_)
      clear hS
      have hS := hS2
      clear hS2
      try simp only [Act.put, List.getElem_toArray, List.getElem_cons_succ, List.getElem_cons_zero, List.setIfInBounds_toArray, List.set_cons_zero, List.set_cons_succ]
      refine AnyG.done (by kernel_rfl) ?_ _
      clear hS
      go_wp2_with fail
      go_roundw
      case rel => exact ⟨4, by omega, by go_num, kg.drew.row, hB.drew.setRow (Nat.le_refl _) _⟩
      case measure => first | (simp [intOf]; done) | (simp [intOf]; decide)
    · go_wp2_with fail
      go_ret
      exact ⟨⟨⟨w'.heap.size, 0, none⟩, 4, rfl, fil_own kg (Nat.le_refl _) (by omega)⟩, hB⟩
set_option maxRecDepth 100000 in
set_option maxHeartbeats 1000000 in
theorem repeat_5 (b c : Nat) (w : World) (hb : Bx w b 3 #[.int .i64 (-1)]) : Calls Tryd.prog 49 #[.slice (some ⟨b, 0, none⟩) 1 c, .int .i64 5] w fun e w' => (∃ A c', e = .returned (.slice (some A) 5 c') ∧ w'.ownsRow w.heap.size 3 1 (.slice (some A) 5 c') 5 (inr (List.replicate 5 (-1))).flatten) ∧ Below w.heap.size w w' := by
  obtain ⟨x0, xf, xz⟩ := hb.one
  have hmk := make27 5 (by omega)
  rw [show (((5 : Nat) : Int)) = 5 from rfl] at hmk
  go_enter Tryd.func49, Tryd.ntmps49
  go_wp2_with (first | (go_at_call 55; refine (mul_one' 5 _ (by omega)).mono ?_; rintro e w' ⟨rfl, rfl⟩; have hcp := cp_first 5 (by omega) (by omega) c (Bx.new w' 3 (fil 5 0)) (hb.alloc (.cells (fil 5 0) 3))) | fail)
  have kg := (Bx.new w' 3 (fil 5 0)).row (cs' := fil 5 1)
  have hB := (((Below.refl w'.heap.size w').alloc (Nat.le_refl _) (.cells (fil 5 0) 3)).setRow (g := w'.heap.size) (Nat.le_refl _) (fil 5 1))
  clear hcp hmk x0 xf xz
  go_loopw [8] (fun mv wr => ∃ k : Nat, (k = 1 ∨ k = 2 ∨ k = 4 ∨ k = 5) ∧ mv = .int .i64 k ∧ Bx wr w'.heap.size 3 (fil 5 k) ∧ Below w'.heap.size w' wr) (fun mv _ => 5 - (intOf mv).toNat)
  case atStart => exact ⟨1, by omega, rfl, kg, hB⟩
  case round =>
    clear kg hB
    obtain ⟨k, hk, rfl, kg, hB⟩ := hrel
    rcases hk with rfl | rfl | rfl | rfl
    · go_wp2_with fail
      refine AnyG.startC (by kernel_rfl) ?_
      refine AnyG.takeP (i := 0) (v := ?_) rfl (by kernel_rfl) (fun _ _ _ h => h) rfl ?_ ?_
      rotate_left
      · (intro w'; go_simp; try with_reducible rfl)
      try simp only [Act.put, List.getElem_toArray, List.getElem_cons_succ, List.getElem_cons_zero, List.setIfInBounds_toArray, List.set_cons_zero, List.set_cons_succ]
      refine AnyG.takeP (i := 1) (v := ?_) rfl (by kernel_rfl) (fun _ _ _ h => h) rfl ?_ ?_
      rotate_left
      · (intro w'; go_simp; try with_reducible rfl)
      try simp only [Act.put, List.getElem_toArray, List.getElem_cons_succ, List.getElem_cons_zero, List.setIfInBounds_toArray, List.set_cons_zero, List.set_cons_succ]
      refine AnyG.takeP (i := 2) (v := ?_) rfl (by kernel_rfl) (fun _ _ _ h => h) rfl ?_ ?_
      rotate_left
      · (intro w'; go_simp; try with_reducible rfl)
      try simp only [Act.put, List.getElem_toArray, List.getElem_cons_succ, List.getElem_cons_zero, List.setIfInBounds_toArray, List.set_cons_zero, List.set_cons_succ]
      refine AnyG.takeP (i := 3) (v := ?_) rfl (by kernel_rfl) (fun _ _ _ h => h) rfl ?_ ?_
      rotate_left
      · (intro w'; go_simp; try with_reducible rfl)
      try simp only [Act.put, List.getElem_toArray, List.getElem_cons_succ, List.getElem_cons_zero, List.setIfInBounds_toArray, List.set_cons_zero, List.set_cons_succ]
      refine AnyG.takeP (i := 4) (v := ?_) rfl (by kernel_rfl) (fun _ _ _ h => h) rfl ?_ ?_
      rotate_left
      · (intro w'; go_simp; try with_reducible rfl)
      try simp only [Act.put, List.getElem_toArray, List.getElem_cons_succ, List.getElem_cons_zero, List.setIfInBounds_toArray, List.set_cons_zero, List.set_cons_succ]
      refine AnyG.takeP (i := 5) (v := ?_) rfl (by kernel_rfl) (fun _ _ _ h => h) rfl ?_ ?_
      rotate_left
      · (intro w'; go_simp; try with_reducible rfl)
      try simp only [Act.put, List.getElem_toArray, List.getElem_cons_succ, List.getElem_cons_zero, List.setIfInBounds_toArray, List.set_cons_zero, List.set_cons_succ]
      refine AnyG.takeP (i := 6) (v := ?_) rfl (by kernel_rfl) (fun _ _ _ h => h) rfl ?_ ?_
      rotate_left
      · (intro w'; go_simp; try with_reducible rfl)
      try simp only [Act.put, List.getElem_toArray, List.getElem_cons_succ, List.getElem_cons_zero, List.setIfInBounds_toArray, List.set_cons_zero, List.set_cons_succ]
      refine AnyG.enter (fun x : World => Below w'.heap.size w' x) (fun i => true) ?_
      have hS : (fun x : World => Below w'.heap.size w' x) (World.drew _) := hB.drew
      refine AnyG.one (i := 7) (by kernel_rfl) rfl rfl ?_
      have hcp : (Builtin.copy_ #[39, 39] 3 #[.slice (some ⟨w'.heap.size, 1, none⟩) 4 4, .slice (some ⟨w'.heap.size, 0, none⟩) 1 5]).run Tryd.prog wr.drew = .ok (.int .i64 1) (wr.drew.setRow w'.heap.size (fil 5 2)) := cp_next 5 1 (by omega) (by omega) (by omega) kg.drew
      go_simp
      clear hcp
      refine Onward.on (hS.setRow (Nat.le_refl _) _) (fun hS2 => ?_)
      clear hS
      have hS := hS2
      clear hS2
      try simp only [Act.put, List.getElem_toArray, List.getElem_cons_succ, List.getElem_cons_zero, List.setIfInBounds_toArray, List.set_cons_zero, List.set_cons_succ]
      refine AnyG.takeC (i := 8) (v := ?_) rfl (by kernel_rfl) (fun _ _ _ h => h) rfl ?_ hS ?_
      rotate_left
      · (intro w' hSw; (try dsimp only at hSw); go_simp; try with_reducible rfl)
      try simp only [Act.put, List.getElem_toArray, List.getElem_cons_succ, List.getElem_cons_zero, List.setIfInBounds_toArray, List.set_cons_zero, List.set_cons_succ]
      refine AnyG.one (i := 9) (by kernel_rfl) rfl rfl ?_
      go_simp
      refine Onward.on hS (fun hS2 => ?_)
      clear hS
      have hS := hS2
      clear hS2
      try simp only [Act.put, List.getElem_toArray, List.getElem_cons_succ, List.getElem_cons_zero, List.setIfInBounds_toArray, List.set_cons_zero, List.set_cons_succ]
      refine AnyG.done (by kernel_rfl) ?_ _
      clear hS
      go_wp2_with fail
      go_roundw
      case rel => exact ⟨2, by omega, by go_num, kg.drew.row, hB.drew.setRow (Nat.le_refl _) _⟩
      case measure => first | (simp [intOf]; done) | (simp [intOf]; decide)
    · go_wp2_with fail
      refine AnyG.startC (by kernel_rfl) ?_
      refine AnyG.takeP (i := 0) (v := ?_) rfl (by kernel_rfl) (fun _ _ _ h => h) rfl ?_ ?_
      rotate_left
      · (intro w'; go_simp; try with_reducible rfl)
      try simp only [Act.put, List.getElem_toArray, List.getElem_cons_succ, List.getElem_cons_zero, List.setIfInBounds_toArray, List.set_cons_zero, List.set_cons_succ]
      refine AnyG.takeP (i := 1) (v := ?_) rfl (by kernel_rfl) (fun _ _ _ h => h) rfl ?_ ?_
      rotate_left
      · (intro w'; go_simp; try with_reducible rfl)
      try simp only [Act.put, List.getElem_toArray, List.getElem_cons_succ, List.getElem_cons_zero, List.setIfInBounds_toArray, List.set_cons_zero, List.set_cons_succ]
      refine AnyG.takeP (i := 2) (v := ?_) rfl (by kernel_rfl) (fun _ _ _ h => h) rfl ?_ ?_
      rotate_left
      · (intro w'; go_simp; try with_reducible rfl)
      try simp only [Act.put, List.getElem_toArray, List.getElem_cons_succ, List.getElem_cons_zero, List.setIfInBounds_toArray, List.set_cons_zero, List.set_cons_succ]
      refine AnyG.takeP (i := 3) (v := ?_) rfl (by kernel_rfl) (fun _ _ _ h => h) rfl ?_ ?_
      rotate_left
      · (intro w'; go_simp; try with_reducible rfl)
      try simp only [Act.put, List.getElem_toArray, List.getElem_cons_succ, List.getElem_cons_zero, List.setIfInBounds_toArray, List.set_cons_zero, List.set_cons_succ]
      refine AnyG.takeP (i := 4) (v := ?_) rfl (by kernel_rfl) (fun _ _ _ h => h) rfl ?_ ?_
      rotate_left
      · (intro w'; go_simp; try with_reducible rfl)
      try simp only [Act.put, List.getElem_toArray, List.getElem_cons_succ, List.getElem_cons_zero, List.setIfInBounds_toArray, List.set_cons_zero, List.set_cons_succ]
      refine AnyG.takeP (i := 5) (v := ?_) rfl (by kernel_rfl) (fun _ _ _ h => h) rfl ?_ ?_
      rotate_left
      · (intro w'; go_simp; try with_reducible rfl)
      try simp only [Act.put, List.getElem_toArray, List.getElem_cons_succ, List.getElem_cons_zero, List.setIfInBounds_toArray, List.set_cons_zero, List.set_cons_succ]
      refine AnyG.takeP (i := 6) (v := ?_) rfl (by kernel_rfl) (fun _ _ _ h => h) rfl ?_ ?_
      rotate_left
      · (intro w'; go_simp; try with_reducible rfl)
      try simp only [Act.put, List.getElem_toArray, List.getElem_cons_succ, List.getElem_cons_zero, List.setIfInBounds_toArray, List.set_cons_zero, List.set_cons_succ]
      refine AnyG.enter (fun x : World => Below w'.heap.size w' x) (fun i => true) ?_
      have hS : (fun x : World => Below w'.heap.size w' x) (World.drew _) := hB.drew
      refine AnyG.one (i := 7) (by kernel_rfl) rfl rfl ?_
      have hcp : (Builtin.copy_ #[39, 39] 3 #[.slice (some ⟨w'.heap.size, 2, none⟩) 3 3, .slice (some ⟨w'.heap.size, 0, none⟩) 2 5]).run Tryd.prog wr.drew = .ok (.int .i64 2) (wr.drew.setRow w'.heap.size (fil 5 4)) := cp_next 5 2 (by omega) (by omega) (by omega) kg.drew
      go_simp
      clear hcp
      refine Onward.on (hS.setRow (Nat.le_refl _) _) (fun hS2 => ?_)
      clear hS
      have hS := hS2
      clear hS2
      try simp only [Act.put, List.getElem_toArray, List.getElem_cons_succ, List.getElem_cons_zero, List.setIfInBounds_toArray, List.set_cons_zero, List.set_cons_succ]
      refine AnyG.takeC (i := 8) (v := ?_) rfl (by kernel_rfl) (fun _ _ _ h => h) rfl ?_ hS ?_
      rotate_left
      · (intro w' hSw; (try dsimp only at hSw); go_simp; try with_reducible rfl)
      try simp only [Act.put, List.getElem_toArray, List.getElem_cons_succ, List.getElem_cons_zero, List.setIfInBounds_toArray, List.set_cons_zero, List.set_cons_succ]
      refine AnyG.one (i := 9) (by kernel_rfl) rfl rfl ?_
      go_simp
      refine Onward.on hS (fun hS2 => ?_)
      clear hS
      have hS := hS2
      clear hS2
      try simp only [Act.put, List.getElem_toArray, List.getElem_cons_succ, List.getElem_cons_zero, List.setIfInBounds_toArray, List.set_cons_zero, List.set_cons_succ]
      refine AnyG.done (by kernel_rfl) ?_ _
      clear hS
      go_wp2_with fail
      go_roundw
      case rel => exact ⟨4, by omega, by go_num, kg.drew.row, hB.drew.setRow (Nat.le_refl _) _⟩
      case measure => first | (simp [intOf]; done) | (simp [intOf]; decide)
    · go_wp2_with fail
      refine AnyG.startC (by kernel_rfl) ?_
      refine AnyG.takeP (i := 0) (v := ?_) rfl (by kernel_rfl) (fun _ _ _ h => h) rfl ?_ ?_
      rotate_left
      · (intro w'; go_simp; try with_reducible rfl)
      try simp only [Act.put, List.getElem_toArray, List.getElem_cons_succ, List.getElem_cons_zero, List.setIfInBounds_toArray, List.set_cons_zero, List.set_cons_succ]
      refine AnyG.takeP (i := 1) (v := ?_) rfl (by kernel_rfl) (fun _ _ _ h => h) rfl ?_ ?_
      rotate_left
      · (intro w'; go_simp; try with_reducible rfl)
      try simp only [Act.put, List.getElem_toArray, List.getElem_cons_succ, List.getElem_cons_zero, List.setIfInBounds_toArray, List.set_cons_zero, List.set_cons_succ]
      refine AnyG.takeP (i := 2) (v := ?_) rfl (by kernel_rfl) (fun _ _ _ h => h) rfl ?_ ?_
      rotate_left
      · (intro w'; go_simp; try with_reducible rfl)
      try simp only [Act.put, List.getElem_toArray, List.getElem_cons_succ, List.getElem_cons_zero, List.setIfInBounds_toArray, List.set_cons_zero, List.set_cons_succ]
      refine AnyG.takeP (i := 3) (v := ?_) rfl (by kernel_rfl) (fun _ _ _ h => h) rfl ?_ ?_
      rotate_left
      · (intro w'; go_simp; try with_reducible rfl)
      try simp only [Act.put, List.getElem_toArray, List.getElem_cons_succ, List.getElem_cons_zero, List.setIfInBounds_toArray, List.set_cons_zero, List.set_cons_succ]
      refine AnyG.takeP (i := 4) (v := ?_) rfl (by kernel_rfl) (fun _ _ _ h => h) rfl ?_ ?_
      rotate_left
      · (intro w'; go_simp; try with_reducible rfl)
      try simp only [Act.put, List.getElem_toArray, List.getElem_cons_succ, List.getElem_cons_zero, List.setIfInBounds_toArray, List.set_cons_zero, List.set_cons_succ]
      refine AnyG.takeP (i := 5) (v := ?_) rfl (by kernel_rfl) (fun _ _ _ h => h) rfl ?_ ?_
      rotate_left
      · (intro w'; go_simp; try with_reducible rfl)
      try simp only [Act.put, List.getElem_toArray, List.getElem_cons_succ, List.getElem_cons_zero, List.setIfInBounds_toArray, List.set_cons_zero, List.set_cons_succ]
      refine AnyG.takeP (i := 6) (v := ?_) rfl (by kernel_rfl) (fun _ _ _ h => h) rfl ?_ ?_
      rotate_left
      · (intro w'; go_simp; try with_reducible rfl)
      try simp only [Act.put, List.getElem_toArray, List.getElem_cons_succ, List.getElem_cons_zero, List.setIfInBounds_toArray, List.set_cons_zero, List.set_cons_succ]
      refine AnyG.enter (fun x : World => Below w'.heap.size w' x) (fun i => true) ?_
      have hS : (fun x : World => Below w'.heap.size w' x) (World.drew _) := hB.drew
      refine AnyG.one (i := 7) (by kernel_rfl) rfl rfl ?_
      have hcp : (Builtin.copy_ #[39, 39] 3 #[.slice (some ⟨w'.heap.size, 4, none⟩) 1 1, .slice (some ⟨w'.heap.size, 0, none⟩) 4 5]).run Tryd.prog wr.drew = .ok (.int .i64 1) (wr.drew.setRow w'.heap.size (fil 5 5)) := cp_next 5 4 (by omega) (by omega) (by omega) kg.drew
      go_simp
      clear hcp
      refine Onward.on (hS.setRow (Nat.le_refl _) _) (fun hS2 => ?_)
      clear hS
      have hS := hS2
      clear hS2
      try simp only [Act.put, List.getElem_toArray, List.getElem_cons_succ, List.getElem_cons_zero, List.setIfInBounds_toArray, List.set_cons_zero, List.set_cons_succ]
      refine AnyG.takeC (i := 8) (v := ?_) rfl (by kernel_rfl) (fun _ _ _ h => h) rfl ?_ hS ?_
      rotate_left
      · (intro w' hSw; (try dsimp only at hSw); go_simp; try with_reducible rfl)
      try simp only [Act.put, List.getElem_toArray, List.getElem_cons_succ, List.getElem_cons_zero, List.setIfInBounds_toArray, List.set_cons_zero, List.set_cons_succ]
      refine AnyG.one (i := 9) (by kernel_rfl) rfl rfl ?_
      go_simp
      refine Onward.on hS (fun hS2 => ?_)
      clear hS
      have hS := hS2
      clear hS2
      try simp only [Act.put, List.getElem_toArray, List.getElem_cons_succ, List.getElem_cons_zero, List.setIfInBounds_toArray, List.set_cons_zero, List.set_cons_succ]
      refine AnyG.done (by kernel_rfl) ?_ _
      clear hS
      go_wp2_with fail
      go_roundw
      case rel => exact ⟨5, by omega, by go_num, kg.drew.row, hB.drew.setRow (Nat.le_refl _) _⟩
      case measure => first | (simp [intOf]; done) | (simp [intOf]; decide)
    · go_wp2_with fail
      go_ret
      exact ⟨⟨⟨w'.heap.size, 0, none⟩, 5, rfl, fil_own kg (Nat.le_refl _) (by omega)⟩, hB⟩
set_option maxRecDepth 100000 in
set_option maxHeartbeats 1000000 in
theorem repeat_6 (b c : Nat) (w : World) (hb : Bx w b 3 #[.int .i64 (-1)]) : Calls Tryd.prog 49 #[.slice (some ⟨b, 0, none⟩) 1 c, .int .i64 6] w fun e w' => (∃ A c', e = .returned (.slice (some A) 6 c') ∧ w'.ownsRow w.heap.size 3 1 (.slice (some A) 6 c') 6 (inr (List.replicate 6 (-1))).flatten) ∧ Below w.heap.size w w' := by
  obtain ⟨x0, xf, xz⟩ := hb.one
  have hmk := make27 6 (by omega)
  rw [show (((6 : Nat) : Int)) = 6 from rfl] at hmk
  go_enter Tryd.func49, Tryd.ntmps49
  go_wp2_with (first | (go_at_call 55; refine (mul_one' 6 _ (by omega)).mono ?_; rintro e w' ⟨rfl, rfl⟩; have hcp := cp_first 6 (by omega) (by omega) c (Bx.new w' 3 (fil 6 0)) (hb.alloc (.cells (fil 6 0) 3))) | fail)
  have kg := (Bx.new w' 3 (fil 6 0)).row (cs' := fil 6 1)
  have hB := (((Below.refl w'.heap.size w').alloc (Nat.le_refl _) (.cells (fil 6 0) 3)).setRow (g := w'.heap.size) (Nat.le_refl _) (fil 6 1))
  clear hcp hmk x0 xf xz
  go_loopw [8] (fun mv wr => ∃ k : Nat, (k = 1 ∨ k = 2 ∨ k = 4 ∨ k = 6) ∧ mv = .int .i64 k ∧ Bx wr w'.heap.size 3 (fil 6 k) ∧ Below w'.heap.size w' wr) (fun mv _ => 6 - (intOf mv).toNat)
  case atStart => exact ⟨1, by omega, rfl, kg, hB⟩
  case round =>
    clear kg hB
    obtain ⟨k, hk, rfl, kg, hB⟩ := hrel
    rcases hk with rfl | rfl | rfl | rfl
    · go_wp2_with fail
      refine AnyG.startC (by kernel_rfl) ?_
      refine AnyG.takeP (i := 0) (v := ?_) rfl (by kernel_rfl) (fun _ _ _ h => h) rfl ?_ ?_
      rotate_left
      · (intro w'; go_simp; try with_reducible rfl)
      try simp only [Act.put, List.getElem_toArray, List.getElem_cons_succ, List.getElem_cons_zero, List.setIfInBounds_toArray, List.set_cons_zero, List.set_cons_succ]
      refine AnyG.takeP (i := 1) (v := ?_) rfl (by kernel_rfl) (fun _ _ _ h => h) rfl ?_ ?_
      rotate_left
      · (intro w'; go_simp; try with_reducible rfl)
      try simp only [Act.put, List.getElem_toArray, List.getElem_cons_succ, List.getElem_cons_zero, List.setIfInBounds_toArray, List.set_cons_zero, List.set_cons_succ]
      refine AnyG.takeP (i := 2) (v := ?_) rfl (by kernel_rfl) (fun _ _ _ h => h) rfl ?_ ?_
      rotate_left
      · (intro w'; go_simp; try with_reducible rfl)
      try simp only [Act.put, List.getElem_toArray, List.getElem_cons_succ, List.getElem_cons_zero, List.setIfInBounds_toArray, List.set_cons_zero, List.set_cons_succ]
      refine AnyG.takeP (i := 3) (v := ?_) rfl (by kernel_rfl) (fun _ _ _ h => h) rfl ?_ ?_
      rotate_left
      · (intro w'; go_simp; try with_reducible rfl)
      try simp only [Act.put, List.getElem_toArray, List.getElem_cons_succ, List.getElem_cons_zero, List.setIfInBounds_toArray, List.set_cons_zero, List.set_cons_succ]
      refine AnyG.takeP (i := 4) (v := ?_) rfl (by kernel_rfl) (fun _ _ _ h => h) rfl ?_ ?_
      rotate_left
      · (intro w'; go_simp; try with_reducible rfl)
      try simp only [Act.put, List.getElem_toArray, List.getElem_cons_succ, List.getElem_cons_zero, List.setIfInBounds_toArray, List.set_cons_zero, List.set_cons_succ]
      refine AnyG.takeP (i := 5) (v := ?_) rfl (by kernel_rfl) (fun _ _ _ h => h) rfl ?_ ?_
      rotate_left
      · (intro w'; go_simp; try with_reducible rfl)
      try simp only [Act.put, List.getElem_toArray, List.getElem_cons_succ, List.getElem_cons_zero, List.setIfInBounds_toArray, List.set_cons_zero, List.set_cons_succ]
      refine AnyG.takeP (i := 6) (v := ?_) rfl (by kernel_rfl) (fun _ _ _ h => h) rfl ?_ ?_
      rotate_left
      · (intro w'; go_simp; try with_reducible rfl)
      try simp only [Act.put, List.getElem_toArray, List.getElem_cons_succ, List.getElem_cons_zero, List.setIfInBounds_toArray, List.set_cons_zero, List.set_cons_succ]
      refine AnyG.enter (fun x : World => Below w'.heap.size w' x) (fun i => true) ?_
      have hS : (fun x : World => Below w'.heap.size w' x) (World.drew _) := hB.drew
      refine AnyG.one (i := 7) (by kernel_rfl) rfl rfl ?_
      have hcp : (Builtin.copy_ #[39, 39] 3 #[.slice (some ⟨w'.heap.size, 1, none⟩) 5 5, .slice (some ⟨w'.heap.size, 0, none⟩) 1 6]).run Tryd.prog wr.drew = .ok (.int .i64 1) (wr.drew.setRow w'.heap.size (fil 6 2)) := cp_next 6 1 (by omega) (by omega) (by omega) kg.drew
      go_simp
      clear hcp
      refine Onward.on (hS.setRow (Nat.le_refl _) _) (fun hS2 => ?_)
      clear hS
      have hS := hS2
      clear hS2
      try simp only [Act.put, List.getElem_toArray, List.getElem_cons_succ, List.getElem_cons_zero, List.setIfInBounds_toArray, List.set_cons_zero, List.set_cons_succ]
      refine AnyG.takeC (i := 8) (v := ?_) rfl (by kernel_rfl) (fun _ _ _ h => h) rfl ?_ hS ?_
      rotate_left
      · (intro w' hSw; (try dsimp only at hSw); go_simp; try with_reducible rfl)
      try simp only [Act.put, List.getElem_toArray, List.getElem_cons_succ, List.getElem_cons_zero, List.setIfInBounds_toArray, List.set_cons_zero, List.set_cons_succ]
      refine AnyG.one (i := 9) (by kernel_rfl) rfl rfl ?_
      go_simp
      refine Onward.on hS (fun hS2 => ?_)
      clear hS
      have hS := hS2
      clear hS2
      try simp only [Act.put, List.getElem_toArray, List.getElem_cons_succ, List.getElem_cons_zero, List.setIfInBounds_toArray, List.set_cons_zero, List.set_cons_succ]
      refine AnyG.done (by kernel_rfl) ?_ _
      clear hS
      go_wp2_with fail
      go_roundw
      case rel => exact ⟨2, by omega, by go_num, kg.drew.row, hB.drew.setRow (Nat.le_refl _) _⟩
      case measure => first | (simp [intOf]; done) | (simp [intOf]; decide)
    · go_wp2_with fail
      refine AnyG.startC (by kernel_rfl) ?_
      refine AnyG.takeP (i := 0) (v := ?_) rfl (by kernel_rfl) (fun _ _ _ h => h) rfl ?_ ?_
      rotate_left
      · (intro w'; go_simp; try with_reducible rfl)
      try simp only [Act.put, List.getElem_toArray, List.getElem_cons_succ, List.getElem_cons_zero, List.setIfInBounds_toArray, List.set_cons_zero, List.set_cons_succ]
      refine AnyG.takeP (i := 1) (v := ?_) rfl (by kernel_rfl) (fun _ _ _ h => h) rfl ?_ ?_
      rotate_left
      · (intro w'; go_simp; try with_reducible rfl)
      try simp only [Act.put, List.getElem_toArray, List.getElem_cons_succ, List.getElem_cons_zero, List.setIfInBounds_toArray, List.set_cons_zero, List.set_cons_succ]
      refine AnyG.takeP (i := 2) (v := ?_) rfl (by kernel_rfl) (fun _ _ _ h => h) rfl ?_ ?_
      rotate_left
      · (intro w'; go_simp; try with_reducible rfl)
      try simp only [Act.put, List.getElem_toArray, List.getElem_cons_succ, List.getElem_cons_zero, List.setIfInBounds_toArray, List.set_cons_zero, List.set_cons_succ]
      refine AnyG.takeP (i := 3) (v := ?_) rfl (by kernel_rfl) (fun _ _ _ h => h) rfl ?_ ?_
      rotate_left
      · (intro w'; go_simp; try with_reducible rfl)
      try simp only [Act.put, List.getElem_toArray, List.getElem_cons_succ, List.getElem_cons_zero, List.setIfInBounds_toArray, List.set_cons_zero, List.set_cons_succ]
      refine AnyG.takeP (i := 4) (v := ?_) rfl (by kernel_rfl) (fun _ _ _ h => h) rfl ?_ ?_
      rotate_left
      · (intro w'; go_simp; try with_reducible rfl)
      try simp only [Act.put, List.getElem_toArray, List.getElem_cons_succ, List.getElem_cons_zero, List.setIfInBounds_toArray, List.set_cons_zero, List.set_cons_succ]
      refine AnyG.takeP (i := 5) (v := ?_) rfl (by kernel_rfl) (fun _ _ _ h => h) rfl ?_ ?_
      rotate_left
      · (intro w'; go_simp; try with_reducible rfl)
      try simp only [Act.put, List.getElem_toArray, List.getElem_cons_succ, List.getElem_cons_zero, List.setIfInBounds_toArray, List.set_cons_zero, List.set_cons_succ]
      refine AnyG.takeP (i := 6) (v := ?_) rfl (by kernel_rfl) (fun _ _ _ h => h) rfl ?_ ?_
      rotate_left
      · (intro w'; go_simp; try with_reducible rfl)
      try simp only [Act.put, List.getElem_toArray, List.getElem_cons_succ, List.getElem_cons_zero, List.setIfInBounds_toArray, List.set_cons_zero, List.set_cons_succ]
      refine AnyG.enter (fun x : World => Below w'.heap.size w' x) (fun i => true) ?_
      have hS : (fun x : World => Below w'.heap.size w' x) (World.drew _) := hB.drew
      refine AnyG.one (i := 7) (by kernel_rfl) rfl rfl ?_
      have hcp : (Builtin.copy_ #[39, 39] 3 #[.slice (some ⟨w'.heap.size, 2, none⟩) 4 4, .slice (some ⟨w'.heap.size, 0, none⟩) 2 6]).run Tryd.prog wr.drew = .ok (.int .i64 2) (wr.drew.setRow w'.heap.size (fil 6 4)) := cp_next 6 2 (by omega) (by omega) (by omega) kg.drew
      go_simp
      clear hcp
      refine Onward.on (hS.setRow (Nat.le_refl _) _) (fun hS2 => ?_)
      clear hS
      have hS := hS2
      clear hS2
      try simp only [Act.put, List.getElem_toArray, List.getElem_cons_succ, List.getElem_cons_zero, List.setIfInBounds_toArray, List.set_cons_zero, List.set_cons_succ]
      refine AnyG.takeC (i := 8) (v := ?_) rfl (by kernel_rfl) (fun _ _ _ h => h) rfl ?_ hS ?_
      rotate_left
      · (intro w' hSw; (try dsimp only at hSw); go_simp; try with_reducible rfl)
      try simp only [Act.put, List.getElem_toArray, List.getElem_cons_succ, List.getElem_cons_zero, List.setIfInBounds_toArray, List.set_cons_zero, List.set_cons_succ]
      refine AnyG.one (i := 9) (by kernel_rfl) rfl rfl ?_
      go_simp
      refine Onward.on hS (fun hS2 => ?_)
      clear hS
      have hS := hS2
      clear hS2
      try simp only [Act.put, List.getElem_toArray, List.getElem_cons_succ, List.getElem_cons_zero, List.setIfInBounds_toArray, List.set_cons_zero, List.set_cons_succ]
      refine AnyG.done (by kernel_rfl) ?_ _
      clear hS
      go_wp2_with fail
      go_roundw
      case rel => exact ⟨4, by omega, by go_num, kg.drew.row, hB.drew.setRow (Nat.le_refl _) _⟩
      case measure => first | (simp [intOf]; done) | (simp [intOf]; decide)
    · go_wp2_with fail
      refine AnyG.startC (by kernel_rfl) ?_
      refine AnyG.takeP (i := 0) (v := ?_) rfl (by kernel_rfl) (fun _ _ _ h => h) rfl ?_ ?_
      rotate_left
      · (intro w'; go_simp; try with_reducible rfl)
      try simp only [Act.put, List.getElem_toArray, List.getElem_cons_succ, List.getElem_cons_zero, List.setIfInBounds_toArray, List.set_cons_zero, List.set_cons_succ]
      refine AnyG.takeP (i := 1) (v := ?_) rfl (by kernel_rfl) (fun _ _ _ h => h) rfl ?_ ?_
      rotate_left
      · (intro w'; go_simp; try with_reducible rfl)
      try simp only [Act.put, List.getElem_toArray, List.getElem_cons_succ, List.getElem_cons_zero, List.setIfInBounds_toArray, List.set_cons_zero, List.set_cons_succ]
      refine AnyG.takeP (i := 2) (v := ?_) rfl (by kernel_rfl) (fun _ _ _ h => h) rfl ?_ ?_
      rotate_left
      · (intro w'; go_simp; try with_reducible rfl)
      try simp only [Act.put, List.getElem_toArray, List.getElem_cons_succ, List.getElem_cons_zero, List.setIfInBounds_toArray, List.set_cons_zero, List.set_cons_succ]
      refine AnyG.takeP (i := 3) (v := ?_) rfl (by kernel_rfl) (fun _ _ _ h => h) rfl ?_ ?_
      rotate_left
      · (intro w'; go_simp; try with_reducible rfl)
      try simp only [Act.put, List.getElem_toArray, List.getElem_cons_succ, List.getElem_cons_zero, List.setIfInBounds_toArray, List.set_cons_zero, List.set_cons_succ]
      refine AnyG.takeP (i := 4) (v := ?_) rfl (by kernel_rfl) (fun _ _ _ h => h) rfl ?_ ?_
      rotate_left
      · (intro w'; go_simp; try with_reducible rfl)
      try simp only [Act.put, List.getElem_toArray, List.getElem_cons_succ, List.getElem_cons_zero, List.setIfInBounds_toArray, List.set_cons_zero, List.set_cons_succ]
      refine AnyG.takeP (i := 5) (v := ?_) rfl (by kernel_rfl) (fun _ _ _ h => h) rfl ?_ ?_
      rotate_left
      · (intro w'; go_simp; try with_reducible rfl)
      try simp only [Act.put, List.getElem_toArray, List.getElem_cons_succ, List.getElem_cons_zero, List.setIfInBounds_toArray, List.set_cons_zero, List.set_cons_succ]
      refine AnyG.takeP (i := 6) (v := ?_) rfl (by kernel_rfl) (fun _ _ _ h => h) rfl ?_ ?_
      rotate_left
      · (intro w'; go_simp; try with_reducible rfl)
      try simp only [Act.put, List.getElem_toArray, List.getElem_cons_succ, List.getElem_cons_zero, List.setIfInBounds_toArray, List.set_cons_zero, List.set_cons_succ]
      refine AnyG.enter (fun x : World => Below w'.heap.size w' x) (fun i => true) ?_
      have hS : (fun x : World => Below w'.heap.size w' x) (World.drew _) := hB.drew
      refine AnyG.one (i := 7) (by kernel_rfl) rfl rfl ?_
      have hcp : (Builtin.copy_ #[39, 39] 3 #[.slice (some ⟨w'.heap.size, 4, none⟩) 2 2, .slice (some ⟨w'.heap.size, 0, none⟩) 4 6]).run Tryd.prog wr.drew = .ok (.int .i64 2) (wr.drew.setRow w'.heap.size (fil 6 6)) := cp_next 6 4 (by omega) (by omega) (by omega) kg.drew
      go_simp
      clear hcp
      refine Onward.on (hS.setRow (Nat.le_refl _) _) (fun hS2 => ?_)
      clear hS
      have hS := hS2
      clear hS2
      try simp only [Act.put, List.getElem_toArray, List.getElem_cons_succ, List.getElem_cons_zero, List.setIfInBounds_toArray, List.set_cons_zero, List.set_cons_succ]
      refine AnyG.takeC (i := 8) (v := ?_) rfl (by kernel_rfl) (fun _ _ _ h => h) rfl ?_ hS ?_
      rotate_left
      · (intro w' hSw; (try dsimp only at hSw); go_simp; try with_reducible rfl)
      try simp only [Act.put, List.getElem_toArray, List.getElem_cons_succ, List.getElem_cons_zero, List.setIfInBounds_toArray, List.set_cons_zero, List.set_cons_succ]
      refine AnyG.one (i := 9) (by kernel_rfl) rfl rfl ?_
      go_simp
      refine Onward.on hS (fun hS2 => ?_)
      clear hS
      have hS := hS2
      clear hS2
      try simp only [Act.put, List.getElem_toArray, List.getElem_cons_succ, List.getElem_cons_zero, List.setIfInBounds_toArray, List.set_cons_zero, List.set_cons_succ]
      refine AnyG.done (by kernel_rfl) ?_ _
      clear hS
      go_wp2_with fail
      go_roundw
      case rel => exact ⟨6, by omega, by go_num, kg.drew.row, hB.drew.setRow (Nat.le_refl _) _⟩
      case measure => first | (simp [intOf]; done) | (simp [intOf]; decide)
    · go_wp2_with fail
      go_ret
      exact ⟨⟨⟨w'.heap.size, 0, none⟩, 6, rfl, fil_own kg (Nat.le_refl _) (by omega)⟩, hB⟩
set_option maxRecDepth 100000 in
set_option maxHeartbeats 1000000 in
theorem repeat_0 (b c : Nat) (w : World) (hb : Bx w b 3 #[.int .i64 (-1)]) : Calls Tryd.prog 49 #[.slice (some ⟨b, 0, none⟩) 1 c, .int .i64 0] w fun e w' => (∃ A c', e = .returned (.slice (some A) 0 c') ∧ w'.ownsRow w.heap.size 3 1 (.slice (some A) 0 c') 0 (inr (List.replicate 0 (-1))).flatten) ∧ Below w.heap.size w w' := by
  obtain ⟨x0, xf, xz⟩ := hb.one
  have hmk := make27 0 (by omega)
  rw [show (((0 : Nat) : Int)) = 0 from rfl] at hmk
  go_enter Tryd.func49, Tryd.ntmps49
  go_wp2_with (first | (go_at_call 55; refine (mul_one' 0 _ (by omega)).mono ?_; rintro e w' ⟨rfl, rfl⟩; have hcp := run_copy_none (P := Tryd.prog) (w'.alloc (.cells (fil 0 0) 3)) 39 39 3 3 (some ⟨w'.heap.size, 0, none⟩) (some ⟨b, 0, none⟩) 0 0 1 c Tryd.underlying39 size3 rfl; rw [show goInt 0 = .int .i64 0 from rfl] at hcp) | fail)
  have kg := Bx.new w' 3 (fil 0 0)
  have hB := (Below.refl w'.heap.size w').alloc (Nat.le_refl _) (.cells (fil 0 0) 3)
  clear hcp hmk x0 xf xz
  go_loopw [8] (fun mv wr => mv = .int .i64 0 ∧ Bx wr w'.heap.size 3 (fil 0 0) ∧ Below w'.heap.size w' wr) (fun mv _ => 0)
  case atStart => exact ⟨rfl, kg, hB⟩
  case round =>
    clear kg hB
    obtain ⟨rfl, kg, hB⟩ := hrel
    go_wp2_with fail
    go_ret
    exact ⟨⟨⟨w'.heap.size, 0, none⟩, 0, rfl, fil_own kg (Nat.le_refl _) (by omega)⟩, hB⟩
theorem repeat_any (b c : Nat) (n : Nat) (w : World) (hn : n ≤ 6) (hb : Bx w b 3 #[.int .i64 (-1)]) : Calls Tryd.prog 49 #[.slice (some ⟨b, 0, none⟩) 1 c, .int .i64 n] w fun e w' => (∃ A c', e = .returned (.slice (some A) n c') ∧ w'.ownsRow w.heap.size 3 1 (.slice (some A) n c') n (inr (List.replicate n (-1))).flatten) ∧ Below w.heap.size w w' := by
  rcases (show n = 0 ∨ n = 1 ∨ n = 2 ∨ n = 3 ∨ n = 4 ∨ n = 5 ∨ n = 6 by omega) with rfl | rfl | rfl | rfl | rfl | rfl | rfl
  · exact repeat_0 b c w hb
  · exact repeat_1 b c w hb
  · exact repeat_2 b c w hb
  · exact repeat_3 b c w hb
  · exact repeat_4 b c w hb
  · exact repeat_5 b c w hb
  · exact repeat_6 b c w hb
end Go.Proofs.YtdlohfglmagneaaDoor
