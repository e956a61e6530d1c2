/- swarfkit: FeedOf, Round, Shows. -/
import Derived.Test.YtgbogdckmfencaaIn2
import Derived.Test.YtgbogdckmfencaaAx
set_option linter.unusedSimpArgs false
set_option linter.unusedVariables false
namespace Go.Proofs.Ytgbogdckmfencaa
open Go.RowKit
set_option maxHeartbeats 2000000 in
theorem round_any (x n : Int) (w : World) (h1 : 1 ≤ n) (h2 : n ≤ 1000000) (h3 : -1000000000 ≤ x) (h4 : x ≤ 1000000000) : Calls Try.prog 86 #[.int .i64 x, .int .i64 n] w fun e w' => e = .returned (.int .i64 (x % n)) ∧ w = w' := by
  by_cases hn : n < 2
  · obtain rfl : n = 1 := by omega
    go_enter Try.func86, Try.ntmps86
    go_wp2_with fail
    go_ret
    exact ⟨ret_int (by omega), rfl⟩
  · have b1 : -n < x.tmod n := by have := Int.lt_tmod_of_pos x (show 0 < n by omega); omega
    have b2 : x.tmod n < n := Int.tmod_lt_of_pos x (by omega)
    have e : x.tmod n % n = x % n := by
      rw [Int.tmod_def, show x - n * x.tdiv n = x + n * (-(x.tdiv n)) by rw [Int.mul_neg, Int.sub_eq_add_neg], Int.add_mul_emod_self_left]
    have HE := Lib.hid e
    clear e
    go_enter Try.func86, Try.ntmps86
    go_wp2_with fail
    go_ret
    exact ⟨ret_int HE.out, rfl⟩
/-- What a bridge shows. -/
def shows (st n z : Int) : Int := n + z + st / 2 - (n + z + st / 2) % st
set_option maxHeartbeats 2000000 in
theorem shows_any (st n z : Int) (w : World) (h1 : 1 ≤ st) (h2 : st ≤ 1000) (h3 : -1000000 ≤ n) (h4 : n ≤ 1000000) (h5 : -1000000 ≤ z) (h6 : z ≤ 1000000) : Calls Try.prog 56 #[.int .i64 st, .int .i64 n, .int .i64 z] w fun e w' => e = .returned (.int .i64 (shows st n z)) ∧ w = w' := by
  have b1 := Int.emod_nonneg (n + z + st / 2) (show st ≠ 0 by omega)
  have b2 := Int.emod_lt_of_pos (n + z + st / 2) (show 0 < st by omega)
  go_enter Try.func56, Try.ntmps56
  go_wp2_with (go_at_call 86; refine (round_any _ _ _ (by omega) (by omega) (by omega) (by omega)).mono ?_; rintro e w1 ⟨rfl, rfl⟩)
  go_ret
  exact ⟨rfl, rfl⟩
set_option maxRecDepth 100000 in
set_option maxHeartbeats 2000000 in
theorem feedOf_any (A : Option Addr) (n c : Nat) (L : List Int) (w : World) (hn : n ≤ 9000000000000000000) (hl : L.length = n) (hA : Sl w w.heap.size 1 A (ints L)) : Calls Try.prog 16 #[.slice A n c] w fun e w' => (∃ g, e = .returned (.pointer (some ⟨g, 0, none⟩)) ∧ w.heap.size ≤ g ∧ Fd g w') ∧ Below w.heap.size w w' := by
  have HL := Lib.hid hl
  clear hl
  go_enter Try.func16, Try.ntmps16
  go_wp2_with fail
  go_loopw [4] (fun i wr => ∃ k : Nat, k ≤ n ∧ i = .int .i64 k ∧ Fd w.heap.size wr ∧ Below w.heap.size w wr) (fun i _ => n - (intOf i).toNat)
  case atStart => exact ⟨0, by omega, rfl, ⟨88172645463325252, by omega, by omega, Bx.new _ _ _⟩, (Below.refl _ _).alloc (Nat.le_refl _) _⟩
  case round =>
    obtain ⟨k, hk, rfl, hfd, hBe⟩ := hrel
    by_cases hkn : k < n
    · have hka : k < L.length := by rw [HL.out]; exact hkn
      obtain ⟨ad, rfl, hab, p0⟩ := ints_at (hA.below hBe) hka
      generalize L[k]'hka = y at *
      clear hka
      obtain ⟨x, hx1, hx2, hx⟩ := hfd
      obtain ⟨a0, af, az⟩ := hx.one
      go_wp2_with fail
      obtain ⟨a0, af, az⟩ := hx.one
      refine AnyG.start (fun w' : World => Below wr.heap.size wr w') (fun i => i != 12 && i != 13 && i != 14) (by kernel_rfl) ?_
      have hS : (fun w' : World => Below wr.heap.size wr w') (World.drew _) := (Below.refl _ _).drew
      refine AnyG.take (i := 0) (v := ?_) rfl (by kernel_rfl) (fun _ _ _ h => h) rfl ?_ hS ?_
      rotate_left
      · (intro w' _; go_simp; try with_reducible rfl)
      try simp only [Act.put, List.setIfInBounds_toArray, List.set_cons_zero, List.set_cons_succ]
      refine AnyG.take (i := 1) (v := ?_) rfl (by kernel_rfl) (fun _ _ _ h => h) rfl ?_ hS ?_
      rotate_left
      · (intro w' _; go_simp; try with_reducible rfl)
      try simp only [Act.put, List.setIfInBounds_toArray, List.set_cons_zero, List.set_cons_succ]
      refine AnyG.take (i := 2) (v := ?_) rfl (by kernel_rfl) (fun _ _ _ h => h) rfl ?_ hS ?_
      rotate_left
      · (intro w' _; go_simp; try with_reducible rfl)
      try simp only [Act.put, List.setIfInBounds_toArray, List.set_cons_zero, List.set_cons_succ]
      refine AnyG.take (i := 3) (v := ?_) rfl (by kernel_rfl) (fun _ _ _ h => h) rfl ?_ hS ?_
      rotate_left
      · (intro w' _; go_simp; try with_reducible rfl)
      try simp only [Act.put, List.setIfInBounds_toArray, List.set_cons_zero, List.set_cons_succ]
      refine AnyG.take (i := 4) (v := ?_) rfl (by kernel_rfl) (fun _ _ _ h => h) rfl ?_ hS ?_
      rotate_left
      · (intro w' hSw; (try dsimp only at hSw); have a0 := cellC hSw a0; have p0 := cellC hSw p0; go_simp; try with_reducible rfl)
      try simp only [Act.put, List.setIfInBounds_toArray, List.set_cons_zero, List.set_cons_succ]
      refine AnyG.take (i := 5) (v := ?_) rfl (by kernel_rfl) (fun _ _ _ h => h) rfl ?_ hS ?_
      rotate_left
      · (intro w' _; go_simp; try with_reducible rfl)
      try simp only [Act.put, List.setIfInBounds_toArray, List.set_cons_zero, List.set_cons_succ]
      refine AnyG.take (i := 6) (v := ?_) rfl (by kernel_rfl) (fun _ _ _ h => h) rfl ?_ hS ?_
      rotate_left
      · (intro w' _; go_simp; try with_reducible rfl)
      try simp only [Act.put, List.setIfInBounds_toArray, List.set_cons_zero, List.set_cons_succ]
      refine AnyG.take (i := 7) (v := ?_) rfl (by kernel_rfl) (fun _ _ _ h => h) rfl ?_ hS ?_
      rotate_left
      · (intro w' _; go_simp; try with_reducible rfl)
      try simp only [Act.put, List.setIfInBounds_toArray, List.set_cons_zero, List.set_cons_succ]
      refine AnyG.take (i := 8) (v := ?_) rfl (by kernel_rfl) (fun _ _ _ h => h) rfl ?_ hS ?_
      rotate_left
      · (intro w' hSw; (try dsimp only at hSw); have a0 := cellC hSw a0; have p0 := cellC hSw p0; go_simp; try with_reducible rfl)
      try simp only [Act.put, List.setIfInBounds_toArray, List.set_cons_zero, List.set_cons_succ]
      refine AnyG.take (i := 9) (v := ?_) rfl (by kernel_rfl) (fun _ _ _ h => h) rfl ?_ hS ?_
      rotate_left
      · (intro w' _; go_simp; try with_reducible rfl)
      try simp only [Act.put, List.setIfInBounds_toArray, List.set_cons_zero, List.set_cons_succ]
      refine AnyG.take (i := 10) (v := ?_) rfl (by kernel_rfl) (fun _ _ _ h => h) rfl ?_ hS ?_
      rotate_left
      · (intro w' _; go_simp; try with_reducible rfl)
      try simp only [Act.put, List.setIfInBounds_toArray, List.set_cons_zero, List.set_cons_succ]
      refine AnyG.take (i := 11) (v := ?_) rfl (by kernel_rfl) (fun _ _ _ h => h) rfl ?_ hS ?_
      rotate_left
      · (intro w' _; go_simp; try with_reducible rfl)
      try simp only [Act.put, List.setIfInBounds_toArray, List.set_cons_zero, List.set_cons_succ]
      clear hS
      refine AnyG.one (i := 12) (by kernel_rfl) rfl rfl ?_
      go_simp
      refine Onward.last rfl ?_
      try simp only [Act.put, List.setIfInBounds_toArray, List.set_cons_zero, List.set_cons_succ]
      refine AnyG.one (i := 13) (by kernel_rfl) rfl rfl ?_
      go_simp
      refine Onward.last rfl ?_
      try simp only [Act.put, List.setIfInBounds_toArray, List.set_cons_zero, List.set_cons_succ]
      refine AnyG.one (i := 14) (by kernel_rfl) rfl rfl ?_
      go_simp
      refine Onward.last rfl ?_
      try simp only [Act.put, List.setIfInBounds_toArray, List.set_cons_zero, List.set_cons_succ]
      refine AnyG.done (by kernel_rfl) ?_ _
      go_simp
      clear a0 af az p0
      generalize hq : bits BinOp.xor IntKind.u64 _ _ = q
      have hx1 : 0 ≤ q ∧ q < 18446744073709551616 := by rw [← hq]; exact bits_u64 _ _ _
      clear hq
      replace hx : Bx (World.setCell wr ⟨w.heap.size, 0, none⟩ (.int .u64 q)).drew w.heap.size 88 #[.int .u64 q] := by simpa using (hx.set_ 0 (.int .u64 q)).drew
      replace hBe : Below w.heap.size w (World.setCell wr ⟨w.heap.size, 0, none⟩ (.int .u64 q)).drew := (hBe.setCell (by simp) _).drew
      generalize (World.setCell wr ⟨w.heap.size, 0, none⟩ (.int .u64 q)).drew = w2 at *
      go_wp2_with (go_at_call 57; refine (next_any _ _ ⟨q, hx1.1, hx1.2, hx⟩).mono ?_; rintro e w3 ⟨⟨y3, rfl, hy1, hy2⟩, hf3, hg3⟩)
      go_roundw
      case rel => exact ⟨k + 1, by omega, by go_num, hf3, hBe.grown hg3 hBe.size (fun j e => by cases e; omega)⟩
      case measure => simp [intOf]; omega
    · obtain rfl : k = n := by omega
      go_wp2_with fail
      go_ret
      exact ⟨⟨_, rfl, Nat.le_refl _, hfd⟩, hBe⟩
end Go.Proofs.Ytgbogdckmfencaa
