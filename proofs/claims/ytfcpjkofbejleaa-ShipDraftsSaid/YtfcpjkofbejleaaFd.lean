/- The feed that statements draw their numbers from: FeedOf, next, Below, Between, Often, Either, Range, In. -/
import Derived.Test.YtfcpjkofbejleaaEoM
import Derived.Test.YtfcpjkofbejleaaChM

set_option linter.unusedSimpArgs false
set_option linter.unusedVariables false
namespace Go.Proofs.Ytfcpjkofbejleaa
open Go Go.RowKit
def ints (l : List Int) : List (List Value) := l.map fun a => [.int .i64 a]
theorem ints_at {w : World} {B k : Nat} {X : Option Addr} {l : List Int} (h : Sl w B 1 X (ints l)) (hk : k < l.length) : ∃ ad, X = some ad ∧ ad.block < B ∧ w.cell? (ad.add k) = some (.int .i64 l[k]) := by
  obtain ⟨ad, h1, h2, h3⟩ := Sl.at_ h (k := k) (by simpa [ints] using hk)
  refine ⟨ad, h1, h2, ?_⟩
  have := h3.head (u := .int .i64 l[k]) (by simp [ints])
  simpa using this

attribute [local go_sem ↓] Go.wp_at_zero Go.wp_at_succ
/-! helpers -/

/-- The feed's box. -/
def Fd (g : Nat) (w : World) : Prop := ∃ x : Int, 0 ≤ x ∧ x < 18446744073709551616 ∧ Bx w g 90 #[.int .u64 x]
theorem grown_refl (w : World) (row : Option Nat) : w.grownBy w row := ⟨rfl, rfl, rfl, Nat.le_refl _, fun _ _ _ => rfl⟩
theorem grownF_trans {a b c : World} {row : Option Nat} (h : a.grownBy b row) (k : b.grownBy c row) : a.grownBy c row := ⟨k.os.trans h.os, k.tape.trans h.tape, k.output.trans h.output, Nat.le_trans h.size k.size, fun i hi hn => (k.block i (Nat.lt_of_lt_of_le hi h.size) hn).trans (h.block i hi hn)⟩
theorem grown_drew (w : World) (row : Option Nat) : w.grownBy w.drew row := ⟨rfl, rfl, rfl, Nat.le_refl _, fun _ _ _ => rfl⟩
theorem wrap_u64 (x : Int) : 0 ≤ IntKind.wrap .u64 x ∧ IntKind.wrap .u64 x < 18446744073709551616 := by
  unfold IntKind.wrap
  simp [IntKind.signed, IntKind.bits]
  omega
theorem bits_u64 (op : BinOp) (a b : Int) : 0 ≤ bits op .u64 a b ∧ bits op .u64 a b < 18446744073709551616 := by unfold bits; exact wrap_u64 _
set_option maxHeartbeats 2000000 in
theorem next_any (g : Nat) (w : World) (h : Fd g w) : Calls Try.prog 53 #[.pointer (some ⟨g, 0, none⟩)] w fun e w' => (∃ y : Int, e = .returned (.int .u64 y) ∧ 0 ≤ y ∧ y < 18446744073709551616) ∧ Fd g w' ∧ w.grownBy w' (some g) := by
  obtain ⟨x, hx1, hx2, hx⟩ := h
  obtain ⟨a0, af, az⟩ := hx.one
  by_cases h0 : x = 0
  · subst h0
    go_enter Try.func53, Try.ntmps53
    go_wp2_with fail
    have gr := grown_set w g 0 (.int .u64 1)
    have hx := hx.set_ 0 (.int .u64 1)
    generalize World.setCell w ⟨g, 0, none⟩ (.int .u64 1) = w1 at *
    replace hx : Bx w1 g 90 #[.int .u64 1] := hx
    clear a0 af az
    obtain ⟨a0, af, az⟩ := hx.one
    refine AnyG.start (fun w' : World => Below w1.heap.size w1 w') (fun i => i != 11 && i != 12 && i != 13) (by kernel_rfl) ?_
    have hS : (fun w' : World => Below w1.heap.size w1 w') (World.drew _) := (Below.refl _ _).drew
    refine AnyG.take (i := 0) (v := ?_) rfl (by kernel_rfl) (fun _ _ _ h => h) rfl ?_ hS ?_
    rotate_left
    · (intro w' _; go_simp; try with_reducible rfl)
    try simp only [Act.put, List.setIfInBounds_toArray, List.set_cons_zero, List.set_cons_succ]
    refine AnyG.take (i := 1) (v := ?_) rfl (by kernel_rfl) (fun _ _ _ h => h) rfl ?_ hS ?_
    rotate_left
    · (intro w' _; go_simp; try with_reducible rfl)
    try simp only [Act.put, List.setIfInBounds_toArray, List.set_cons_zero, List.set_cons_succ]
    refine AnyG.take (i := 2) (v := ?_) rfl (by kernel_rfl) (fun _ _ _ h => h) rfl ?_ hS ?_
    rotate_left
    · (intro w' _; go_simp; try with_reducible rfl)
    try simp only [Act.put, List.setIfInBounds_toArray, List.set_cons_zero, List.set_cons_succ]
    refine AnyG.take (i := 3) (v := ?_) rfl (by kernel_rfl) (fun _ _ _ h => h) rfl ?_ hS ?_
    rotate_left
    · (intro w' _; go_simp; try with_reducible rfl)
    try simp only [Act.put, List.setIfInBounds_toArray, List.set_cons_zero, List.set_cons_succ]
    refine AnyG.take (i := 4) (v := ?_) rfl (by kernel_rfl) (fun _ _ _ h => h) rfl ?_ hS ?_
    rotate_left
    · (intro w' hSw; (try dsimp only at hSw); have a0 := cellB hSw a0; go_simp; try with_reducible rfl)
    try simp only [Act.put, List.setIfInBounds_toArray, List.set_cons_zero, List.set_cons_succ]
    refine AnyG.take (i := 5) (v := ?_) rfl (by kernel_rfl) (fun _ _ _ h => h) rfl ?_ hS ?_
    rotate_left
    · (intro w' _; go_simp; try with_reducible rfl)
    try simp only [Act.put, List.setIfInBounds_toArray, List.set_cons_zero, List.set_cons_succ]
    refine AnyG.take (i := 6) (v := ?_) rfl (by kernel_rfl) (fun _ _ _ h => h) rfl ?_ hS ?_
    rotate_left
    · (intro w' _; go_simp; try with_reducible rfl)
    try simp only [Act.put, List.setIfInBounds_toArray, List.set_cons_zero, List.set_cons_succ]
    refine AnyG.take (i := 7) (v := ?_) rfl (by kernel_rfl) (fun _ _ _ h => h) rfl ?_ hS ?_
    rotate_left
    · (intro w' _; go_simp; try with_reducible rfl)
    try simp only [Act.put, List.setIfInBounds_toArray, List.set_cons_zero, List.set_cons_succ]
    refine AnyG.take (i := 8) (v := ?_) rfl (by kernel_rfl) (fun _ _ _ h => h) rfl ?_ hS ?_
    rotate_left
    · (intro w' hSw; (try dsimp only at hSw); have a0 := cellB hSw a0; go_simp; try with_reducible rfl)
    try simp only [Act.put, List.setIfInBounds_toArray, List.set_cons_zero, List.set_cons_succ]
    refine AnyG.take (i := 9) (v := ?_) rfl (by kernel_rfl) (fun _ _ _ h => h) rfl ?_ hS ?_
    rotate_left
    · (intro w' _; go_simp; try with_reducible rfl)
    try simp only [Act.put, List.setIfInBounds_toArray, List.set_cons_zero, List.set_cons_succ]
    refine AnyG.take (i := 10) (v := ?_) rfl (by kernel_rfl) (fun _ _ _ h => h) rfl ?_ hS ?_
    rotate_left
    · (intro w' _; go_simp; try with_reducible rfl)
    try simp only [Act.put, List.setIfInBounds_toArray, List.set_cons_zero, List.set_cons_succ]
    clear hS
    refine AnyG.one (i := 11) (by kernel_rfl) rfl rfl ?_
    go_simp
    refine Onward.last rfl ?_
    try simp only [Act.put, List.setIfInBounds_toArray, List.set_cons_zero, List.set_cons_succ]
    refine AnyG.one (i := 12) (by kernel_rfl) rfl rfl ?_
    go_simp
    refine Onward.last rfl ?_
    try simp only [Act.put, List.setIfInBounds_toArray, List.set_cons_zero, List.set_cons_succ]
    refine AnyG.one (i := 13) (by kernel_rfl) rfl rfl ?_
    go_simp
    refine Onward.last rfl ?_
    try simp only [Act.put, List.setIfInBounds_toArray, List.set_cons_zero, List.set_cons_succ]
    refine AnyG.done (by kernel_rfl) ?_ _
    go_simp
    clear hx1 hx2
    generalize hq : bits BinOp.xor IntKind.u64 _ _ = q
    have hx1 : 0 ≤ q ∧ q < 18446744073709551616 := by rw [← hq]; exact bits_u64 _ _ _
    clear hq
    obtain ⟨hx1, hx2⟩ := hx1
    replace gr : w.grownBy (World.setCell w1 ⟨g, 0, none⟩ (.int .u64 q)).drew (some g) := grownF_trans (grownF_trans gr (grown_set _ g 0 _)) (grown_drew _ _)
    replace hx : Bx (World.setCell w1 ⟨g, 0, none⟩ (.int .u64 q)).drew g 90 #[.int .u64 q] := by simpa using (hx.set_ 0 (.int .u64 q)).drew
    generalize (World.setCell w1 ⟨g, 0, none⟩ (.int .u64 q)).drew = w2 at *
    clear a0 af az
    go_wp2_with fail
    obtain ⟨a0, af, az⟩ := hx.one
    refine AnyG.start (fun w' : World => Below w2.heap.size w2 w') (fun i => i != 11 && i != 12 && i != 13) (by kernel_rfl) ?_
    have hS : (fun w' : World => Below w2.heap.size w2 w') (World.drew _) := (Below.refl _ _).drew
    refine AnyG.take (i := 0) (v := ?_) rfl (by kernel_rfl) (fun _ _ _ h => h) rfl ?_ hS ?_
    rotate_left
    · (intro w' _; go_simp; try with_reducible rfl)
    try simp only [Act.put, List.setIfInBounds_toArray, List.set_cons_zero, List.set_cons_succ]
    refine AnyG.take (i := 1) (v := ?_) rfl (by kernel_rfl) (fun _ _ _ h => h) rfl ?_ hS ?_
    rotate_left
    · (intro w' _; go_simp; try with_reducible rfl)
    try simp only [Act.put, List.setIfInBounds_toArray, List.set_cons_zero, List.set_cons_succ]
    refine AnyG.take (i := 2) (v := ?_) rfl (by kernel_rfl) (fun _ _ _ h => h) rfl ?_ hS ?_
    rotate_left
    · (intro w' _; go_simp; try with_reducible rfl)
    try simp only [Act.put, List.setIfInBounds_toArray, List.set_cons_zero, List.set_cons_succ]
    refine AnyG.take (i := 3) (v := ?_) rfl (by kernel_rfl) (fun _ _ _ h => h) rfl ?_ hS ?_
    rotate_left
    · (intro w' _; go_simp; try with_reducible rfl)
    try simp only [Act.put, List.setIfInBounds_toArray, List.set_cons_zero, List.set_cons_succ]
    refine AnyG.take (i := 4) (v := ?_) rfl (by kernel_rfl) (fun _ _ _ h => h) rfl ?_ hS ?_
    rotate_left
    · (intro w' hSw; (try dsimp only at hSw); have a0 := cellB hSw a0; go_simp; try with_reducible rfl)
    try simp only [Act.put, List.setIfInBounds_toArray, List.set_cons_zero, List.set_cons_succ]
    refine AnyG.take (i := 5) (v := ?_) rfl (by kernel_rfl) (fun _ _ _ h => h) rfl ?_ hS ?_
    rotate_left
    · (intro w' _; go_simp; try with_reducible rfl)
    try simp only [Act.put, List.setIfInBounds_toArray, List.set_cons_zero, List.set_cons_succ]
    refine AnyG.take (i := 6) (v := ?_) rfl (by kernel_rfl) (fun _ _ _ h => h) rfl ?_ hS ?_
    rotate_left
    · (intro w' _; go_simp; try with_reducible rfl)
    try simp only [Act.put, List.setIfInBounds_toArray, List.set_cons_zero, List.set_cons_succ]
    refine AnyG.take (i := 7) (v := ?_) rfl (by kernel_rfl) (fun _ _ _ h => h) rfl ?_ hS ?_
    rotate_left
    · (intro w' _; go_simp; try with_reducible rfl)
    try simp only [Act.put, List.setIfInBounds_toArray, List.set_cons_zero, List.set_cons_succ]
    refine AnyG.take (i := 8) (v := ?_) rfl (by kernel_rfl) (fun _ _ _ h => h) rfl ?_ hS ?_
    rotate_left
    · (intro w' hSw; (try dsimp only at hSw); have a0 := cellB hSw a0; go_simp; try with_reducible rfl)
    try simp only [Act.put, List.setIfInBounds_toArray, List.set_cons_zero, List.set_cons_succ]
    refine AnyG.take (i := 9) (v := ?_) rfl (by kernel_rfl) (fun _ _ _ h => h) rfl ?_ hS ?_
    rotate_left
    · (intro w' _; go_simp; try with_reducible rfl)
    try simp only [Act.put, List.setIfInBounds_toArray, List.set_cons_zero, List.set_cons_succ]
    refine AnyG.take (i := 10) (v := ?_) rfl (by kernel_rfl) (fun _ _ _ h => h) rfl ?_ hS ?_
    rotate_left
    · (intro w' _; go_simp; try with_reducible rfl)
    try simp only [Act.put, List.setIfInBounds_toArray, List.set_cons_zero, List.set_cons_succ]
    clear hS
    refine AnyG.one (i := 11) (by kernel_rfl) rfl rfl ?_
    go_simp
    refine Onward.last rfl ?_
    try simp only [Act.put, List.setIfInBounds_toArray, List.set_cons_zero, List.set_cons_succ]
    refine AnyG.one (i := 12) (by kernel_rfl) rfl rfl ?_
    go_simp
    refine Onward.last rfl ?_
    try simp only [Act.put, List.setIfInBounds_toArray, List.set_cons_zero, List.set_cons_succ]
    refine AnyG.one (i := 13) (by kernel_rfl) rfl rfl ?_
    go_simp
    refine Onward.last rfl ?_
    try simp only [Act.put, List.setIfInBounds_toArray, List.set_cons_zero, List.set_cons_succ]
    refine AnyG.done (by kernel_rfl) ?_ _
    go_simp
    clear hx1 hx2
    generalize hq : bits BinOp.xor IntKind.u64 _ _ = q
    have hx1 : 0 ≤ q ∧ q < 18446744073709551616 := by rw [← hq]; exact bits_u64 _ _ _
    clear hq
    obtain ⟨hx1, hx2⟩ := hx1
    replace gr : w.grownBy (World.setCell w2 ⟨g, 0, none⟩ (.int .u64 q)).drew (some g) := grownF_trans (grownF_trans gr (grown_set _ g 0 _)) (grown_drew _ _)
    replace hx : Bx (World.setCell w2 ⟨g, 0, none⟩ (.int .u64 q)).drew g 90 #[.int .u64 q] := by simpa using (hx.set_ 0 (.int .u64 q)).drew
    generalize (World.setCell w2 ⟨g, 0, none⟩ (.int .u64 q)).drew = w3 at *
    clear a0 af az
    go_wp2_with fail
    obtain ⟨a0, af, az⟩ := hx.one
    refine AnyG.start (fun w' : World => Below w3.heap.size w3 w') (fun i => i != 11 && i != 12 && i != 13) (by kernel_rfl) ?_
    have hS : (fun w' : World => Below w3.heap.size w3 w') (World.drew _) := (Below.refl _ _).drew
    refine AnyG.take (i := 0) (v := ?_) rfl (by kernel_rfl) (fun _ _ _ h => h) rfl ?_ hS ?_
    rotate_left
    · (intro w' _; go_simp; try with_reducible rfl)
    try simp only [Act.put, List.setIfInBounds_toArray, List.set_cons_zero, List.set_cons_succ]
    refine AnyG.take (i := 1) (v := ?_) rfl (by kernel_rfl) (fun _ _ _ h => h) rfl ?_ hS ?_
    rotate_left
    · (intro w' _; go_simp; try with_reducible rfl)
    try simp only [Act.put, List.setIfInBounds_toArray, List.set_cons_zero, List.set_cons_succ]
    refine AnyG.take (i := 2) (v := ?_) rfl (by kernel_rfl) (fun _ _ _ h => h) rfl ?_ hS ?_
    rotate_left
    · (intro w' _; go_simp; try with_reducible rfl)
    try simp only [Act.put, List.setIfInBounds_toArray, List.set_cons_zero, List.set_cons_succ]
    refine AnyG.take (i := 3) (v := ?_) rfl (by kernel_rfl) (fun _ _ _ h => h) rfl ?_ hS ?_
    rotate_left
    · (intro w' _; go_simp; try with_reducible rfl)
    try simp only [Act.put, List.setIfInBounds_toArray, List.set_cons_zero, List.set_cons_succ]
    refine AnyG.take (i := 4) (v := ?_) rfl (by kernel_rfl) (fun _ _ _ h => h) rfl ?_ hS ?_
    rotate_left
    · (intro w' hSw; (try dsimp only at hSw); have a0 := cellB hSw a0; go_simp; try with_reducible rfl)
    try simp only [Act.put, List.setIfInBounds_toArray, List.set_cons_zero, List.set_cons_succ]
    refine AnyG.take (i := 5) (v := ?_) rfl (by kernel_rfl) (fun _ _ _ h => h) rfl ?_ hS ?_
    rotate_left
    · (intro w' _; go_simp; try with_reducible rfl)
    try simp only [Act.put, List.setIfInBounds_toArray, List.set_cons_zero, List.set_cons_succ]
    refine AnyG.take (i := 6) (v := ?_) rfl (by kernel_rfl) (fun _ _ _ h => h) rfl ?_ hS ?_
    rotate_left
    · (intro w' _; go_simp; try with_reducible rfl)
    try simp only [Act.put, List.setIfInBounds_toArray, List.set_cons_zero, List.set_cons_succ]
    refine AnyG.take (i := 7) (v := ?_) rfl (by kernel_rfl) (fun _ _ _ h => h) rfl ?_ hS ?_
    rotate_left
    · (intro w' _; go_simp; try with_reducible rfl)
    try simp only [Act.put, List.setIfInBounds_toArray, List.set_cons_zero, List.set_cons_succ]
    refine AnyG.take (i := 8) (v := ?_) rfl (by kernel_rfl) (fun _ _ _ h => h) rfl ?_ hS ?_
    rotate_left
    · (intro w' hSw; (try dsimp only at hSw); have a0 := cellB hSw a0; go_simp; try with_reducible rfl)
    try simp only [Act.put, List.setIfInBounds_toArray, List.set_cons_zero, List.set_cons_succ]
    refine AnyG.take (i := 9) (v := ?_) rfl (by kernel_rfl) (fun _ _ _ h => h) rfl ?_ hS ?_
    rotate_left
    · (intro w' _; go_simp; try with_reducible rfl)
    try simp only [Act.put, List.setIfInBounds_toArray, List.set_cons_zero, List.set_cons_succ]
    refine AnyG.take (i := 10) (v := ?_) rfl (by kernel_rfl) (fun _ _ _ h => h) rfl ?_ hS ?_
    rotate_left
    · (intro w' _; go_simp; try with_reducible rfl)
    try simp only [Act.put, List.setIfInBounds_toArray, List.set_cons_zero, List.set_cons_succ]
    clear hS
    refine AnyG.one (i := 11) (by kernel_rfl) rfl rfl ?_
    go_simp
    refine Onward.last rfl ?_
    try simp only [Act.put, List.setIfInBounds_toArray, List.set_cons_zero, List.set_cons_succ]
    refine AnyG.one (i := 12) (by kernel_rfl) rfl rfl ?_
    go_simp
    refine Onward.last rfl ?_
    try simp only [Act.put, List.setIfInBounds_toArray, List.set_cons_zero, List.set_cons_succ]
    refine AnyG.one (i := 13) (by kernel_rfl) rfl rfl ?_
    go_simp
    refine Onward.last rfl ?_
    try simp only [Act.put, List.setIfInBounds_toArray, List.set_cons_zero, List.set_cons_succ]
    refine AnyG.done (by kernel_rfl) ?_ _
    go_simp
    clear hx1 hx2
    generalize hq : bits BinOp.xor IntKind.u64 _ _ = q
    have hx1 : 0 ≤ q ∧ q < 18446744073709551616 := by rw [← hq]; exact bits_u64 _ _ _
    clear hq
    obtain ⟨hx1, hx2⟩ := hx1
    replace gr : w.grownBy (World.setCell w3 ⟨g, 0, none⟩ (.int .u64 q)).drew (some g) := grownF_trans (grownF_trans gr (grown_set _ g 0 _)) (grown_drew _ _)
    replace hx : Bx (World.setCell w3 ⟨g, 0, none⟩ (.int .u64 q)).drew g 90 #[.int .u64 q] := by simpa using (hx.set_ 0 (.int .u64 q)).drew
    generalize (World.setCell w3 ⟨g, 0, none⟩ (.int .u64 q)).drew = w4 at *
    clear a0 af az
    obtain ⟨a0, af, az⟩ := hx.one
    go_wp2_with fail
    go_ret
    exact ⟨⟨_, rfl, wrap_u64 _⟩, ⟨q, hx1, hx2, hx⟩, gr⟩
  · go_enter Try.func53, Try.ntmps53
    go_wp2_with fail
    have gr := grown_refl w (some g)
    replace hx : Bx w g 90 #[.int .u64 x] := hx
    clear a0 af az
    obtain ⟨a0, af, az⟩ := hx.one
    refine AnyG.start (fun w' : World => Below w.heap.size w w') (fun i => i != 11 && i != 12 && i != 13) (by kernel_rfl) ?_
    have hS : (fun w' : World => Below w.heap.size w w') (World.drew _) := (Below.refl _ _).drew
    refine AnyG.take (i := 0) (v := ?_) rfl (by kernel_rfl) (fun _ _ _ h => h) rfl ?_ hS ?_
    rotate_left
    · (intro w' _; go_simp; try with_reducible rfl)
    try simp only [Act.put, List.setIfInBounds_toArray, List.set_cons_zero, List.set_cons_succ]
    refine AnyG.take (i := 1) (v := ?_) rfl (by kernel_rfl) (fun _ _ _ h => h) rfl ?_ hS ?_
    rotate_left
    · (intro w' _; go_simp; try with_reducible rfl)
    try simp only [Act.put, List.setIfInBounds_toArray, List.set_cons_zero, List.set_cons_succ]
    refine AnyG.take (i := 2) (v := ?_) rfl (by kernel_rfl) (fun _ _ _ h => h) rfl ?_ hS ?_
    rotate_left
    · (intro w' _; go_simp; try with_reducible rfl)
    try simp only [Act.put, List.setIfInBounds_toArray, List.set_cons_zero, List.set_cons_succ]
    refine AnyG.take (i := 3) (v := ?_) rfl (by kernel_rfl) (fun _ _ _ h => h) rfl ?_ hS ?_
    rotate_left
    · (intro w' _; go_simp; try with_reducible rfl)
    try simp only [Act.put, List.setIfInBounds_toArray, List.set_cons_zero, List.set_cons_succ]
    refine AnyG.take (i := 4) (v := ?_) rfl (by kernel_rfl) (fun _ _ _ h => h) rfl ?_ hS ?_
    rotate_left
    · (intro w' hSw; (try dsimp only at hSw); have a0 := cellB hSw a0; go_simp; try with_reducible rfl)
    try simp only [Act.put, List.setIfInBounds_toArray, List.set_cons_zero, List.set_cons_succ]
    refine AnyG.take (i := 5) (v := ?_) rfl (by kernel_rfl) (fun _ _ _ h => h) rfl ?_ hS ?_
    rotate_left
    · (intro w' _; go_simp; try with_reducible rfl)
    try simp only [Act.put, List.setIfInBounds_toArray, List.set_cons_zero, List.set_cons_succ]
    refine AnyG.take (i := 6) (v := ?_) rfl (by kernel_rfl) (fun _ _ _ h => h) rfl ?_ hS ?_
    rotate_left
    · (intro w' _; go_simp; try with_reducible rfl)
    try simp only [Act.put, List.setIfInBounds_toArray, List.set_cons_zero, List.set_cons_succ]
    refine AnyG.take (i := 7) (v := ?_) rfl (by kernel_rfl) (fun _ _ _ h => h) rfl ?_ hS ?_
    rotate_left
    · (intro w' _; go_simp; try with_reducible rfl)
    try simp only [Act.put, List.setIfInBounds_toArray, List.set_cons_zero, List.set_cons_succ]
    refine AnyG.take (i := 8) (v := ?_) rfl (by kernel_rfl) (fun _ _ _ h => h) rfl ?_ hS ?_
    rotate_left
    · (intro w' hSw; (try dsimp only at hSw); have a0 := cellB hSw a0; go_simp; try with_reducible rfl)
    try simp only [Act.put, List.setIfInBounds_toArray, List.set_cons_zero, List.set_cons_succ]
    refine AnyG.take (i := 9) (v := ?_) rfl (by kernel_rfl) (fun _ _ _ h => h) rfl ?_ hS ?_
    rotate_left
    · (intro w' _; go_simp; try with_reducible rfl)
    try simp only [Act.put, List.setIfInBounds_toArray, List.set_cons_zero, List.set_cons_succ]
    refine AnyG.take (i := 10) (v := ?_) rfl (by kernel_rfl) (fun _ _ _ h => h) rfl ?_ hS ?_
    rotate_left
    · (intro w' _; go_simp; try with_reducible rfl)
    try simp only [Act.put, List.setIfInBounds_toArray, List.set_cons_zero, List.set_cons_succ]
    clear hS
    refine AnyG.one (i := 11) (by kernel_rfl) rfl rfl ?_
    go_simp
    refine Onward.last rfl ?_
    try simp only [Act.put, List.setIfInBounds_toArray, List.set_cons_zero, List.set_cons_succ]
    refine AnyG.one (i := 12) (by kernel_rfl) rfl rfl ?_
    go_simp
    refine Onward.last rfl ?_
    try simp only [Act.put, List.setIfInBounds_toArray, List.set_cons_zero, List.set_cons_succ]
    refine AnyG.one (i := 13) (by kernel_rfl) rfl rfl ?_
    go_simp
    refine Onward.last rfl ?_
    try simp only [Act.put, List.setIfInBounds_toArray, List.set_cons_zero, List.set_cons_succ]
    refine AnyG.done (by kernel_rfl) ?_ _
    go_simp
    clear hx1 hx2
    generalize hq : bits BinOp.xor IntKind.u64 _ _ = q
    have hx1 : 0 ≤ q ∧ q < 18446744073709551616 := by rw [← hq]; exact bits_u64 _ _ _
    clear hq
    obtain ⟨hx1, hx2⟩ := hx1
    replace gr : w.grownBy (World.setCell w ⟨g, 0, none⟩ (.int .u64 q)).drew (some g) := grownF_trans (grownF_trans gr (grown_set _ g 0 _)) (grown_drew _ _)
    replace hx : Bx (World.setCell w ⟨g, 0, none⟩ (.int .u64 q)).drew g 90 #[.int .u64 q] := by simpa using (hx.set_ 0 (.int .u64 q)).drew
    generalize (World.setCell w ⟨g, 0, none⟩ (.int .u64 q)).drew = w2 at *
    clear a0 af az
    go_wp2_with fail
    obtain ⟨a0, af, az⟩ := hx.one
    refine AnyG.start (fun w' : World => Below w2.heap.size w2 w') (fun i => i != 11 && i != 12 && i != 13) (by kernel_rfl) ?_
    have hS : (fun w' : World => Below w2.heap.size w2 w') (World.drew _) := (Below.refl _ _).drew
    refine AnyG.take (i := 0) (v := ?_) rfl (by kernel_rfl) (fun _ _ _ h => h) rfl ?_ hS ?_
    rotate_left
    · (intro w' _; go_simp; try with_reducible rfl)
    try simp only [Act.put, List.setIfInBounds_toArray, List.set_cons_zero, List.set_cons_succ]
    refine AnyG.take (i := 1) (v := ?_) rfl (by kernel_rfl) (fun _ _ _ h => h) rfl ?_ hS ?_
    rotate_left
    · (intro w' _; go_simp; try with_reducible rfl)
    try simp only [Act.put, List.setIfInBounds_toArray, List.set_cons_zero, List.set_cons_succ]
    refine AnyG.take (i := 2) (v := ?_) rfl (by kernel_rfl) (fun _ _ _ h => h) rfl ?_ hS ?_
    rotate_left
    · (intro w' _; go_simp; try with_reducible rfl)
    try simp only [Act.put, List.setIfInBounds_toArray, List.set_cons_zero, List.set_cons_succ]
    refine AnyG.take (i := 3) (v := ?_) rfl (by kernel_rfl) (fun _ _ _ h => h) rfl ?_ hS ?_
    rotate_left
    · (intro w' _; go_simp; try with_reducible rfl)
    try simp only [Act.put, List.setIfInBounds_toArray, List.set_cons_zero, List.set_cons_succ]
    refine AnyG.take (i := 4) (v := ?_) rfl (by kernel_rfl) (fun _ _ _ h => h) rfl ?_ hS ?_
    rotate_left
    · (intro w' hSw; (try dsimp only at hSw); have a0 := cellB hSw a0; go_simp; try with_reducible rfl)
    try simp only [Act.put, List.setIfInBounds_toArray, List.set_cons_zero, List.set_cons_succ]
    refine AnyG.take (i := 5) (v := ?_) rfl (by kernel_rfl) (fun _ _ _ h => h) rfl ?_ hS ?_
    rotate_left
    · (intro w' _; go_simp; try with_reducible rfl)
    try simp only [Act.put, List.setIfInBounds_toArray, List.set_cons_zero, List.set_cons_succ]
    refine AnyG.take (i := 6) (v := ?_) rfl (by kernel_rfl) (fun _ _ _ h => h) rfl ?_ hS ?_
    rotate_left
    · (intro w' _; go_simp; try with_reducible rfl)
    try simp only [Act.put, List.setIfInBounds_toArray, List.set_cons_zero, List.set_cons_succ]
    refine AnyG.take (i := 7) (v := ?_) rfl (by kernel_rfl) (fun _ _ _ h => h) rfl ?_ hS ?_
    rotate_left
    · (intro w' _; go_simp; try with_reducible rfl)
    try simp only [Act.put, List.setIfInBounds_toArray, List.set_cons_zero, List.set_cons_succ]
    refine AnyG.take (i := 8) (v := ?_) rfl (by kernel_rfl) (fun _ _ _ h => h) rfl ?_ hS ?_
    rotate_left
    · (intro w' hSw; (try dsimp only at hSw); have a0 := cellB hSw a0; go_simp; try with_reducible rfl)
    try simp only [Act.put, List.setIfInBounds_toArray, List.set_cons_zero, List.set_cons_succ]
    refine AnyG.take (i := 9) (v := ?_) rfl (by kernel_rfl) (fun _ _ _ h => h) rfl ?_ hS ?_
    rotate_left
    · (intro w' _; go_simp; try with_reducible rfl)
    try simp only [Act.put, List.setIfInBounds_toArray, List.set_cons_zero, List.set_cons_succ]
    refine AnyG.take (i := 10) (v := ?_) rfl (by kernel_rfl) (fun _ _ _ h => h) rfl ?_ hS ?_
    rotate_left
    · (intro w' _; go_simp; try with_reducible rfl)
    try simp only [Act.put, List.setIfInBounds_toArray, List.set_cons_zero, List.set_cons_succ]
    clear hS
    refine AnyG.one (i := 11) (by kernel_rfl) rfl rfl ?_
    go_simp
    refine Onward.last rfl ?_
    try simp only [Act.put, List.setIfInBounds_toArray, List.set_cons_zero, List.set_cons_succ]
    refine AnyG.one (i := 12) (by kernel_rfl) rfl rfl ?_
    go_simp
    refine Onward.last rfl ?_
    try simp only [Act.put, List.setIfInBounds_toArray, List.set_cons_zero, List.set_cons_succ]
    refine AnyG.one (i := 13) (by kernel_rfl) rfl rfl ?_
    go_simp
    refine Onward.last rfl ?_
    try simp only [Act.put, List.setIfInBounds_toArray, List.set_cons_zero, List.set_cons_succ]
    refine AnyG.done (by kernel_rfl) ?_ _
    go_simp
    clear hx1 hx2
    generalize hq : bits BinOp.xor IntKind.u64 _ _ = q
    have hx1 : 0 ≤ q ∧ q < 18446744073709551616 := by rw [← hq]; exact bits_u64 _ _ _
    clear hq
    obtain ⟨hx1, hx2⟩ := hx1
    replace gr : w.grownBy (World.setCell w2 ⟨g, 0, none⟩ (.int .u64 q)).drew (some g) := grownF_trans (grownF_trans gr (grown_set _ g 0 _)) (grown_drew _ _)
    replace hx : Bx (World.setCell w2 ⟨g, 0, none⟩ (.int .u64 q)).drew g 90 #[.int .u64 q] := by simpa using (hx.set_ 0 (.int .u64 q)).drew
    generalize (World.setCell w2 ⟨g, 0, none⟩ (.int .u64 q)).drew = w3 at *
    clear a0 af az
    go_wp2_with fail
    obtain ⟨a0, af, az⟩ := hx.one
    refine AnyG.start (fun w' : World => Below w3.heap.size w3 w') (fun i => i != 11 && i != 12 && i != 13) (by kernel_rfl) ?_
    have hS : (fun w' : World => Below w3.heap.size w3 w') (World.drew _) := (Below.refl _ _).drew
    refine AnyG.take (i := 0) (v := ?_) rfl (by kernel_rfl) (fun _ _ _ h => h) rfl ?_ hS ?_
    rotate_left
    · (intro w' _; go_simp; try with_reducible rfl)
    try simp only [Act.put, List.setIfInBounds_toArray, List.set_cons_zero, List.set_cons_succ]
    refine AnyG.take (i := 1) (v := ?_) rfl (by kernel_rfl) (fun _ _ _ h => h) rfl ?_ hS ?_
    rotate_left
    · (intro w' _; go_simp; try with_reducible rfl)
    try simp only [Act.put, List.setIfInBounds_toArray, List.set_cons_zero, List.set_cons_succ]
    refine AnyG.take (i := 2) (v := ?_) rfl (by kernel_rfl) (fun _ _ _ h => h) rfl ?_ hS ?_
    rotate_left
    · (intro w' _; go_simp; try with_reducible rfl)
    try simp only [Act.put, List.setIfInBounds_toArray, List.set_cons_zero, List.set_cons_succ]
    refine AnyG.take (i := 3) (v := ?_) rfl (by kernel_rfl) (fun _ _ _ h => h) rfl ?_ hS ?_
    rotate_left
    · (intro w' _; go_simp; try with_reducible rfl)
    try simp only [Act.put, List.setIfInBounds_toArray, List.set_cons_zero, List.set_cons_succ]
    refine AnyG.take (i := 4) (v := ?_) rfl (by kernel_rfl) (fun _ _ _ h => h) rfl ?_ hS ?_
    rotate_left
    · (intro w' hSw; (try dsimp only at hSw); have a0 := cellB hSw a0; go_simp; try with_reducible rfl)
    try simp only [Act.put, List.setIfInBounds_toArray, List.set_cons_zero, List.set_cons_succ]
    refine AnyG.take (i := 5) (v := ?_) rfl (by kernel_rfl) (fun _ _ _ h => h) rfl ?_ hS ?_
    rotate_left
    · (intro w' _; go_simp; try with_reducible rfl)
    try simp only [Act.put, List.setIfInBounds_toArray, List.set_cons_zero, List.set_cons_succ]
    refine AnyG.take (i := 6) (v := ?_) rfl (by kernel_rfl) (fun _ _ _ h => h) rfl ?_ hS ?_
    rotate_left
    · (intro w' _; go_simp; try with_reducible rfl)
    try simp only [Act.put, List.setIfInBounds_toArray, List.set_cons_zero, List.set_cons_succ]
    refine AnyG.take (i := 7) (v := ?_) rfl (by kernel_rfl) (fun _ _ _ h => h) rfl ?_ hS ?_
    rotate_left
    · (intro w' _; go_simp; try with_reducible rfl)
    try simp only [Act.put, List.setIfInBounds_toArray, List.set_cons_zero, List.set_cons_succ]
    refine AnyG.take (i := 8) (v := ?_) rfl (by kernel_rfl) (fun _ _ _ h => h) rfl ?_ hS ?_
    rotate_left
    · (intro w' hSw; (try dsimp only at hSw); have a0 := cellB hSw a0; go_simp; try with_reducible rfl)
    try simp only [Act.put, List.setIfInBounds_toArray, List.set_cons_zero, List.set_cons_succ]
    refine AnyG.take (i := 9) (v := ?_) rfl (by kernel_rfl) (fun _ _ _ h => h) rfl ?_ hS ?_
    rotate_left
    · (intro w' _; go_simp; try with_reducible rfl)
    try simp only [Act.put, List.setIfInBounds_toArray, List.set_cons_zero, List.set_cons_succ]
    refine AnyG.take (i := 10) (v := ?_) rfl (by kernel_rfl) (fun _ _ _ h => h) rfl ?_ hS ?_
    rotate_left
    · (intro w' _; go_simp; try with_reducible rfl)
    try simp only [Act.put, List.setIfInBounds_toArray, List.set_cons_zero, List.set_cons_succ]
    clear hS
    refine AnyG.one (i := 11) (by kernel_rfl) rfl rfl ?_
    go_simp
    refine Onward.last rfl ?_
    try simp only [Act.put, List.setIfInBounds_toArray, List.set_cons_zero, List.set_cons_succ]
    refine AnyG.one (i := 12) (by kernel_rfl) rfl rfl ?_
    go_simp
    refine Onward.last rfl ?_
    try simp only [Act.put, List.setIfInBounds_toArray, List.set_cons_zero, List.set_cons_succ]
    refine AnyG.one (i := 13) (by kernel_rfl) rfl rfl ?_
    go_simp
    refine Onward.last rfl ?_
    try simp only [Act.put, List.setIfInBounds_toArray, List.set_cons_zero, List.set_cons_succ]
    refine AnyG.done (by kernel_rfl) ?_ _
    go_simp
    clear hx1 hx2
    generalize hq : bits BinOp.xor IntKind.u64 _ _ = q
    have hx1 : 0 ≤ q ∧ q < 18446744073709551616 := by rw [← hq]; exact bits_u64 _ _ _
    clear hq
    obtain ⟨hx1, hx2⟩ := hx1
    replace gr : w.grownBy (World.setCell w3 ⟨g, 0, none⟩ (.int .u64 q)).drew (some g) := grownF_trans (grownF_trans gr (grown_set _ g 0 _)) (grown_drew _ _)
    replace hx : Bx (World.setCell w3 ⟨g, 0, none⟩ (.int .u64 q)).drew g 90 #[.int .u64 q] := by simpa using (hx.set_ 0 (.int .u64 q)).drew
    generalize (World.setCell w3 ⟨g, 0, none⟩ (.int .u64 q)).drew = w4 at *
    clear a0 af az
    obtain ⟨a0, af, az⟩ := hx.one
    go_wp2_with fail
    go_ret
    exact ⟨⟨_, rfl, wrap_u64 _⟩, ⟨q, hx1, hx2, hx⟩, gr⟩


theorem Fd.alloc {g : Nat} {w : World} (h : Fd g w) (o : Obj) : Fd g (w.alloc o) := by obtain ⟨x, h1, h2, h3⟩ := h; exact ⟨x, h1, h2, h3.alloc o⟩
theorem Fd.far {g : Nat} {w : World} (h : Fd g w) {p : Addr} (hp : g ≠ p.block) (u : Value) : Fd g (w.setCell p u) := by obtain ⟨x, h1, h2, h3⟩ := h; exact ⟨x, h1, h2, h3.far hp u⟩
theorem Fd.drew {g : Nat} {w : World} (h : Fd g w) : Fd g w.drew := h
theorem Fd.lt {g : Nat} {w : World} (h : Fd g w) : g < w.heap.size := by obtain ⟨x, _, _, h3⟩ := h; exact h3.lt
theorem grown_alloc {a b : World} {row : Option Nat} (h : a.grownBy b row) (o : Obj) : a.grownBy (b.alloc o) row := grownF_trans h (World.grownBy_alloc b o row)
theorem grown_new {a b : World} {row : Option Nat} (h : a.grownBy b row) {g o : Nat} (hg : a.heap.size ≤ g) (u : Value) : a.grownBy (b.setCell ⟨g, o, none⟩ u) row := ⟨h.os, h.tape, h.output, by simpa [World.setCell] using h.size, fun k hk hn => (Below.heap_setCell _ _ _ _ (by simp only; omega)).trans (h.block k hk hn)⟩
set_option maxHeartbeats 2000000 in
theorem below_any (g : Nat) (n : Int) (w : World) (h : Fd g w) (hn : -9223372036854775808 ≤ n) (hn2 : n ≤ 9223372036854775807) : Calls Try.prog 49 #[.pointer (some ⟨g, 0, none⟩), .int .i64 n] w fun e w' => (∃ r : Int, e = .returned (.int .i64 r) ∧ 0 ≤ r ∧ (r < n ∨ r = 0)) ∧ Fd g w' ∧ w.grownBy w' (some g) := by
  by_cases hlt : n < 2
  · go_enter Try.func49, Try.ntmps49
    go_wp2_with fail
    go_ret
    exact ⟨⟨0, rfl, by omega, .inr rfl⟩, h, grown_refl _ _⟩
  · have hw : IntKind.u64.wrap n = n := by unfold IntKind.wrap; simp [IntKind.signed, IntKind.bits]; omega
    go_enter Try.func49, Try.ntmps49
    go_wp2_with (go_at_call 53; refine (next_any g _ h).mono ?_; rintro e w1 ⟨⟨y, rfl, hy1, hy2⟩, hfd, hgr⟩)
    go_ret
    have h1 := Int.emod_nonneg (y / 256) (show n ≠ 0 by omega)
    have h2 := Int.emod_lt_of_pos (y / 256) (show 0 < n by omega)
    refine ⟨⟨y / 256 % n, ?_, h1, .inl h2⟩, hfd, hgr⟩
    exact ret_int (IntWalk.wrap64_in _ (by omega))
set_option maxHeartbeats 2000000 in
theorem between_any (g : Nat) (lo hi : Int) (w : World) (h : Fd g w) (h1 : -1000000000 ≤ lo) (h2 : lo ≤ 1000000000) (h3 : -1000000000 ≤ hi) (h4 : hi ≤ 1000000000) : Calls Try.prog 48 #[.pointer (some ⟨g, 0, none⟩), .int .i64 lo, .int .i64 hi] w fun e w' => (∃ r : Int, e = .returned (.int .i64 r) ∧ lo ≤ r ∧ (r ≤ hi ∨ r = lo)) ∧ Fd g w' ∧ w.grownBy w' (some g) := by
  go_enter Try.func48, Try.ntmps48
  go_wp2_with (go_at_call 49; refine (below_any g _ _ h (by omega) (by omega)).mono ?_; rintro e w1 ⟨⟨y, rfl, hy1, hy2⟩, hfd, hgr⟩)
  go_ret
  refine ⟨⟨lo + y, rfl, by omega, by omega⟩, hfd, hgr⟩
set_option maxHeartbeats 2000000 in
theorem either_any (g b n : Nat) (cs : Array Value) (P : Int → Prop) (w : World) (h : Fd g w) (hb : Bx w b 3 cs) (hne : b ≠ g) (hn : 1 ≤ n) (hn2 : n ≤ 100) (hcs : ∀ i, i < n → ∃ x, cs[i]? = some (.int .i64 x) ∧ P x) :
    Calls Try.prog 18 #[.pointer (some ⟨g, 0, none⟩), .slice (some ⟨b, 0, none⟩) n n] w fun e w' => (∃ r : Int, e = .returned (.int .i64 r) ∧ P r) ∧ Fd g w' ∧ w.grownBy w' (some g) := by
  have HCS := Lib.hid hcs
  clear hcs
  go_enter Try.func18, Try.ntmps18
  go_wp2_with (go_at_call 49; refine (below_any g _ _ h (by omega) (by omega)).mono ?_; rintro e w1 ⟨⟨y, rfl, hy1, hy2⟩, hfd, hgr⟩; obtain ⟨k, rfl⟩ := Int.eq_ofNat_of_zero_le hy1; have hk : k < n := (by omega); have kb := hb.grown hgr (by simpa using hne); obtain ⟨x, hx, hp⟩ := HCS.out k hk; have HP := Lib.hid hp; clear hp; have c0 := (kb.cell k).trans hx; have cf := kb.free; have cz := kb.lt; clear hx)
  go_ret
  exact ⟨⟨x, rfl, HP.out⟩, hfd, hgr⟩


theorem bx3 {x y z : Int} (P : Int → Prop) (h1 : P x) (h2 : P y) (h3 : P z) : ∀ i, i < 3 → ∃ q, (#[Value.int .i64 x, .int .i64 y, .int .i64 z] : Array Value)[i]? = some (.int .i64 q) ∧ P q := by
  intro i hi
  match i, hi with
  | 0, _ => exact ⟨x, rfl, h1⟩
  | 1, _ => exact ⟨y, rfl, h2⟩
  | 2, _ => exact ⟨z, rfl, h3⟩
set_option maxRecDepth 100000 in
set_option maxHeartbeats 2000000 in
theorem range_any (g : Nat) (lo hi : Int) (w : World) (h : Fd g w) (h1 : -1000000 ≤ lo) (h2 : lo ≤ hi) (h3 : hi ≤ 1000000) : Calls Try.prog 54 #[.pointer (some ⟨g, 0, none⟩), .int .i64 lo, .int .i64 hi] w fun e w' => (∃ a b : Int, e = .returned (.agg #[.int .i64 a, .int .i64 b]) ∧ lo ≤ a ∧ a ≤ b ∧ b ≤ hi) ∧ Fd g w' ∧ w.grownBy w' (some g) := by
  have hgl := h.lt
  have HG0 := Lib.hid (h.alloc (.cells #[.int .i64 0, .int .i64 0] 41))
  have GR0 := Lib.hid (grown_alloc (grown_refl w (some g)) (.cells #[.int .i64 0, .int .i64 0] 41))
  have K0 := Lib.hid (Bx.new w 41 #[.int .i64 0, .int .i64 0])
  go_enter Try.func54, Try.ntmps54
  go_wp2_with (first | (go_at_call 48; first | (have _t := hf2; clear _t; refine (between_any g a hi _ hf2 (by omega) (by omega) (by omega) (by omega)).mono ?_; rintro e w3 ⟨⟨c, rfl, hc1, hc2⟩, hf3, hg3⟩; have gr3 := grownF_trans gr2 hg3; have k3 := k2.grown hg3 (by simp; omega)) | (refine (between_any g lo hi _ HG0.out (by omega) (by omega) (by omega) (by omega)).mono ?_; rintro e w1 ⟨⟨a, rfl, ha1, ha2⟩, hf1, hg1⟩; have gr1 := grownF_trans GR0.out hg1; have k1 := K0.out.grown hg1 (by simp; omega))) | (go_at_call 49; refine (below_any g _ _ hf1 (by omega) (by omega)).mono ?_; rintro e w2 ⟨⟨d, rfl, hd1, hd2⟩, hf2, hg2⟩; have gr2 := grownF_trans gr1 hg2; have k2 := k1.grown hg2 (by simp; omega)) | (go_at_call 18; have hl3 := hf3.lt; refine (either_any g _ 3 _ (fun r => a ≤ r ∧ r ≤ hi) _ (hf3.alloc _) (Bx.new _ _ _) (by omega) (by omega) (by omega) (bx3 _ ⟨by omega, by omega⟩ ⟨by omega, by omega⟩ ⟨by omega, by omega⟩)).mono ?_; rintro e w4 ⟨⟨r, rfl, hr1, hr2⟩, hf4, hg4⟩; have gr4 := grownF_trans (grown_alloc gr3 _) hg4; have k4 := (k3.alloc _).grown hg4 (by simp; omega); obtain ⟨c0, c1, cf, cz⟩ := k4.two))
  all_goals refine bodyPost_ret (v := .agg #[.int .i64 a, .int .i64 r]) (by simp [results, Try.results54, go_sem, c0, c1, World.cell?_setCell_same', World.cell?_setCell_other]) rfl ⟨⟨a, r, rfl, by omega, by omega, by omega⟩, (hf4.far (by simp; omega) _).far (by simp; omega) _, grown_new (grown_new gr4 (by omega) _) (by omega) _⟩

/-- Since a region began only the feed has turned, and it is a feed. -/
def FT (g : Nat) (V w' : World) : Prop := V.grownBy w' (some g) ∧ Fd g w'
/-- What one operation may turn. -/
def FK (g : Nat) (x y : World) : Prop := x.grownBy y (some g) ∧ (Fd g x → Fd g y)
theorem FT.step {g : Nat} {V x y : World} (h : FT g V x) (k : FK g x y) : FT g V y := ⟨grownF_trans h.1 k.1, k.2 h.2⟩
theorem FT.bx {g b t : Nat} {cs : Array Value} {V w' : World} (h : FT g V w') (k : Bx V b t cs) (hne : b ≠ g) : Bx w' b t cs := k.grown h.1 (by simpa using hne)
theorem FK.bx {g b t : Nat} {cs : Array Value} {V w' : World} (h : FK g V w') (k : Bx V b t cs) (hne : b ≠ g) : Bx w' b t cs := k.grown h.1 (by simpa using hne)
theorem FK.alloc (g : Nat) (w : World) (o : Obj) : FK g w (w.alloc o) := ⟨grown_alloc (grown_refl _ _) _, fun h => h.alloc _⟩
set_option maxRecDepth 100000 in
set_option maxHeartbeats 2000000 in
theorem feedOf_any (A : Option Addr) (n c : Nat) (L : List Int) (w : World) (hn : n ≤ 9000000000000000000) (hl : L.length = n) (hA : Sl w w.heap.size 1 A (ints L)) : Calls Try.prog 16 #[.slice A n c] w fun e w' => (∃ g, e = .returned (.pointer (some ⟨g, 0, none⟩)) ∧ w.heap.size ≤ g ∧ Fd g w') ∧ Below w.heap.size w w' := by
  have HL := Lib.hid hl
  clear hl
  go_enter Try.func16, Try.ntmps16
  go_wp2_with fail
  go_loopw [4] (fun i wr => ∃ k : Nat, k ≤ n ∧ i = .int .i64 k ∧ Fd w.heap.size wr ∧ Below w.heap.size w wr) (fun i _ => n - (intOf i).toNat)
  case atStart => exact ⟨0, by omega, rfl, ⟨88172645463325252, by omega, by omega, Bx.new _ _ _⟩, (Below.refl _ _).alloc (Nat.le_refl _) _⟩
  case round =>
    obtain ⟨k, hk, rfl, hfd, hBe⟩ := hrel
    by_cases hkn : k < n
    · have hka : k < L.length := by rw [HL.out]; exact hkn
      obtain ⟨ad, rfl, hab, p0⟩ := ints_at (hA.below hBe) hka
      generalize L[k]'hka = y at *
      clear hka
      obtain ⟨x, hx1, hx2, hx⟩ := hfd
      obtain ⟨a0, af, az⟩ := hx.one
      go_wp2_with fail
      obtain ⟨a0, af, az⟩ := hx.one
      refine AnyG.start (fun w' : World => Below wr.heap.size wr w') (fun i => i != 12 && i != 13 && i != 14) (by kernel_rfl) ?_
      have hS : (fun w' : World => Below wr.heap.size wr w') (World.drew _) := (Below.refl _ _).drew
      refine AnyG.take (i := 0) (v := ?_) rfl (by kernel_rfl) (fun _ _ _ h => h) rfl ?_ hS ?_
      rotate_left
      · (intro w' _; go_simp; try with_reducible rfl)
      try simp only [Act.put, List.setIfInBounds_toArray, List.set_cons_zero, List.set_cons_succ]
      refine AnyG.take (i := 1) (v := ?_) rfl (by kernel_rfl) (fun _ _ _ h => h) rfl ?_ hS ?_
      rotate_left
      · (intro w' _; go_simp; try with_reducible rfl)
      try simp only [Act.put, List.setIfInBounds_toArray, List.set_cons_zero, List.set_cons_succ]
      refine AnyG.take (i := 2) (v := ?_) rfl (by kernel_rfl) (fun _ _ _ h => h) rfl ?_ hS ?_
      rotate_left
      · (intro w' _; go_simp; try with_reducible rfl)
      try simp only [Act.put, List.setIfInBounds_toArray, List.set_cons_zero, List.set_cons_succ]
      refine AnyG.take (i := 3) (v := ?_) rfl (by kernel_rfl) (fun _ _ _ h => h) rfl ?_ hS ?_
      rotate_left
      · (intro w' _; go_simp; try with_reducible rfl)
      try simp only [Act.put, List.setIfInBounds_toArray, List.set_cons_zero, List.set_cons_succ]
      refine AnyG.take (i := 4) (v := ?_) rfl (by kernel_rfl) (fun _ _ _ h => h) rfl ?_ hS ?_
      rotate_left
      · (intro w' hSw; (try dsimp only at hSw); have a0 := cellC hSw a0; have p0 := cellC hSw p0; go_simp; try with_reducible rfl)
      try simp only [Act.put, List.setIfInBounds_toArray, List.set_cons_zero, List.set_cons_succ]
      refine AnyG.take (i := 5) (v := ?_) rfl (by kernel_rfl) (fun _ _ _ h => h) rfl ?_ hS ?_
      rotate_left
      · (intro w' _; go_simp; try with_reducible rfl)
      try simp only [Act.put, List.setIfInBounds_toArray, List.set_cons_zero, List.set_cons_succ]
      refine AnyG.take (i := 6) (v := ?_) rfl (by kernel_rfl) (fun _ _ _ h => h) rfl ?_ hS ?_
      rotate_left
      · (intro w' _; go_simp; try with_reducible rfl)
      try simp only [Act.put, List.setIfInBounds_toArray, List.set_cons_zero, List.set_cons_succ]
      refine AnyG.take (i := 7) (v := ?_) rfl (by kernel_rfl) (fun _ _ _ h => h) rfl ?_ hS ?_
      rotate_left
      · (intro w' _; go_simp; try with_reducible rfl)
      try simp only [Act.put, List.setIfInBounds_toArray, List.set_cons_zero, List.set_cons_succ]
      refine AnyG.take (i := 8) (v := ?_) rfl (by kernel_rfl) (fun _ _ _ h => h) rfl ?_ hS ?_
      rotate_left
      · (intro w' hSw; (try dsimp only at hSw); have a0 := cellC hSw a0; have p0 := cellC hSw p0; go_simp; try with_reducible rfl)
      try simp only [Act.put, List.setIfInBounds_toArray, List.set_cons_zero, List.set_cons_succ]
      refine AnyG.take (i := 9) (v := ?_) rfl (by kernel_rfl) (fun _ _ _ h => h) rfl ?_ hS ?_
      rotate_left
      · (intro w' _; go_simp; try with_reducible rfl)
      try simp only [Act.put, List.setIfInBounds_toArray, List.set_cons_zero, List.set_cons_succ]
      refine AnyG.take (i := 10) (v := ?_) rfl (by kernel_rfl) (fun _ _ _ h => h) rfl ?_ hS ?_
      rotate_left
      · (intro w' _; go_simp; try with_reducible rfl)
      try simp only [Act.put, List.setIfInBounds_toArray, List.set_cons_zero, List.set_cons_succ]
      refine AnyG.take (i := 11) (v := ?_) rfl (by kernel_rfl) (fun _ _ _ h => h) rfl ?_ hS ?_
      rotate_left
      · (intro w' _; go_simp; try with_reducible rfl)
      try simp only [Act.put, List.setIfInBounds_toArray, List.set_cons_zero, List.set_cons_succ]
      clear hS
      refine AnyG.one (i := 12) (by kernel_rfl) rfl rfl ?_
      go_simp
      refine Onward.last rfl ?_
      try simp only [Act.put, List.setIfInBounds_toArray, List.set_cons_zero, List.set_cons_succ]
      refine AnyG.one (i := 13) (by kernel_rfl) rfl rfl ?_
      go_simp
      refine Onward.last rfl ?_
      try simp only [Act.put, List.setIfInBounds_toArray, List.set_cons_zero, List.set_cons_succ]
      refine AnyG.one (i := 14) (by kernel_rfl) rfl rfl ?_
      go_simp
      refine Onward.last rfl ?_
      try simp only [Act.put, List.setIfInBounds_toArray, List.set_cons_zero, List.set_cons_succ]
      refine AnyG.done (by kernel_rfl) ?_ _
      go_simp
      clear a0 af az p0
      generalize hq : bits BinOp.xor IntKind.u64 _ _ = q
      have hx1 : 0 ≤ q ∧ q < 18446744073709551616 := by rw [← hq]; exact bits_u64 _ _ _
      clear hq
      replace hx : Bx (World.setCell wr ⟨w.heap.size, 0, none⟩ (.int .u64 q)).drew w.heap.size 90 #[.int .u64 q] := by simpa using (hx.set_ 0 (.int .u64 q)).drew
      replace hBe : Below w.heap.size w (World.setCell wr ⟨w.heap.size, 0, none⟩ (.int .u64 q)).drew := (hBe.setCell (by simp) _).drew
      generalize (World.setCell wr ⟨w.heap.size, 0, none⟩ (.int .u64 q)).drew = w2 at *
      go_wp2_with (go_at_call 53; refine (next_any _ _ ⟨q, hx1.1, hx1.2, hx⟩).mono ?_; rintro e w3 ⟨⟨y3, rfl, hy1, hy2⟩, hf3, hg3⟩)
      go_roundw
      case rel => exact ⟨k + 1, by omega, by go_num, hf3, hBe.grown hg3 hBe.size (fun j e => by cases e; omega)⟩
      case measure => simp [intOf]; omega
    · obtain rfl : k = n := by omega
      go_wp2_with fail
      go_ret
      exact ⟨⟨_, rfl, Nat.le_refl _, hfd⟩, hBe⟩

end Go.Proofs.Ytfcpjkofbejleaa
