/- swarfkit.Feed: the numbers that follow from a list of numbers. -/
import Derived.Test.YtgbogdckmfencaaRegM
set_option linter.unusedSimpArgs false
set_option linter.unusedVariables false
namespace Go.Proofs.Ytgbogdckmfencaa
open Go.RowKit
/-- The feed's box. -/
def Fd (g : Nat) (w : World) : Prop:=∃ x : Int,0 ≤ x ∧ x < 18446744073709551616 ∧ Bx w g 88 #[.int .u64 x]
theorem grown_refl (w : World) (row : Option Nat) : w.grownBy w row:=⟨rfl,rfl,rfl,Nat.le_refl _,fun _ _ _ => rfl⟩
theorem grown_trans {a b c : World} {row : Option Nat} (h : a.grownBy b row) (k : b.grownBy c row) : a.grownBy c row:=⟨k.os.trans h.os,k.tape.trans h.tape,k.output.trans h.output,Nat.le_trans h.size k.size,fun i hi hn => (k.block i (Nat.lt_of_lt_of_le hi h.size) hn).trans (h.block i hi hn)⟩
theorem grown_set (w : World) (g o : Nat) (u : Value) : w.grownBy (w.setCell ⟨g,o,none⟩ u) (some g):=⟨rfl,rfl,rfl,by simp [World.setCell],fun k _ hn => Below.heap_setCell _ _ _ _ (fun e => hn (by rw [e]))⟩
theorem grown_drew (w : World) (row : Option Nat) : w.grownBy w.drew row:=⟨rfl,rfl,rfl,Nat.le_refl _,fun _ _ _ => rfl⟩
theorem grown_below {w w' : World} {row : Option Nat} (h : Below w.heap.size w w') : w.grownBy w' row:=⟨h.os,h.tape,h.output,h.size,fun k hk _ => h.block k hk⟩
theorem wrap_u64 (x : Int) : 0 ≤ IntKind.wrap .u64 x ∧ IntKind.wrap .u64 x < 18446744073709551616:=by
 unfold IntKind.wrap
 simp [IntKind.signed,IntKind.bits]
 omega
theorem bits_u64 (op : BinOp) (a b : Int) : 0 ≤ bits op .u64 a b ∧ bits op .u64 a b < 18446744073709551616:=by unfold bits; exact wrap_u64 _
set_option maxHeartbeats 2000000 in
theorem next_any (g : Nat) (w : World) (h : Fd g w) : Calls Try.prog 57 #[.pointer (some ⟨g,0,none⟩)] w fun e w' => (∃ y : Int,e = .returned (.int .u64 y) ∧ 0 ≤ y ∧ y < 18446744073709551616) ∧ Fd g w' ∧ w.grownBy w' (some g):=by
 obtain ⟨x,hx1,hx2,hx⟩:=h
 obtain ⟨a0,af,az⟩:=hx.one
 by_cases h0 : x = 0
 ·subst h0
  go_enter Try.func57,Try.ntmps57
  go_wp2_with fail
  have gr:=grown_set w g 0 (.int .u64 1)
  have hx:=hx.set_ 0 (.int .u64 1)
  generalize World.setCell w ⟨g,0,none⟩ (.int .u64 1) = w1 at *
  replace hx : Bx w1 g 88 #[.int .u64 1]:=hx
  clear a0 af az
  obtain ⟨a0,af,az⟩:=hx.one
  refine AnyG.start (fun w' : World => Below w1.heap.size w1 w') (fun i => i != 11 && i != 12 && i != 13) (by kernel_rfl) ?_
  have hS : (fun w' : World => Below w1.heap.size w1 w') (World.drew _):=(Below.refl _ _).drew
  refine AnyG.take (i:=0) (v:=?_) rfl (by kernel_rfl) (fun _ _ _ h => h) rfl ?_ hS ?_
  rotate_left
  ·(intro w' _; go_simp; try with_reducible rfl)
  try simp only [Act.put,Sp4,Sp5,Sp6]
  refine AnyG.take (i:=1) (v:=?_) rfl (by kernel_rfl) (fun _ _ _ h => h) rfl ?_ hS ?_
  rotate_left
  ·(intro w' _; go_simp; try with_reducible rfl)
  try simp only [Act.put,Sp4,Sp5,Sp6]
  refine AnyG.take (i:=2) (v:=?_) rfl (by kernel_rfl) (fun _ _ _ h => h) rfl ?_ hS ?_
  rotate_left
  ·(intro w' _; go_simp; try with_reducible rfl)
  try simp only [Act.put,Sp4,Sp5,Sp6]
  refine AnyG.take (i:=3) (v:=?_) rfl (by kernel_rfl) (fun _ _ _ h => h) rfl ?_ hS ?_
  rotate_left
  ·(intro w' _; go_simp; try with_reducible rfl)
  try simp only [Act.put,Sp4,Sp5,Sp6]
  refine AnyG.take (i:=4) (v:=?_) rfl (by kernel_rfl) (fun _ _ _ h => h) rfl ?_ hS ?_
  rotate_left
  ·(intro w' hSw; (try dsimp only at hSw); have a0:=cellB hSw a0; go_simp; try with_reducible rfl)
  try simp only [Act.put,Sp4,Sp5,Sp6]
  refine AnyG.take (i:=5) (v:=?_) rfl (by kernel_rfl) (fun _ _ _ h => h) rfl ?_ hS ?_
  rotate_left
  ·(intro w' _; go_simp; try with_reducible rfl)
  try simp only [Act.put,Sp4,Sp5,Sp6]
  refine AnyG.take (i:=6) (v:=?_) rfl (by kernel_rfl) (fun _ _ _ h => h) rfl ?_ hS ?_
  rotate_left
  ·(intro w' _; go_simp; try with_reducible rfl)
  try simp only [Act.put,Sp4,Sp5,Sp6]
  refine AnyG.take (i:=7) (v:=?_) rfl (by kernel_rfl) (fun _ _ _ h => h) rfl ?_ hS ?_
  rotate_left
  ·(intro w' _; go_simp; try with_reducible rfl)
  try simp only [Act.put,Sp4,Sp5,Sp6]
  refine AnyG.take (i:=8) (v:=?_) rfl (by kernel_rfl) (fun _ _ _ h => h) rfl ?_ hS ?_
  rotate_left
  ·(intro w' hSw; (try dsimp only at hSw); have a0:=cellB hSw a0; go_simp; try with_reducible rfl)
  try simp only [Act.put,Sp4,Sp5,Sp6]
  refine AnyG.take (i:=9) (v:=?_) rfl (by kernel_rfl) (fun _ _ _ h => h) rfl ?_ hS ?_
  rotate_left
  ·(intro w' _; go_simp; try with_reducible rfl)
  try simp only [Act.put,Sp4,Sp5,Sp6]
  refine AnyG.take (i:=10) (v:=?_) rfl (by kernel_rfl) (fun _ _ _ h => h) rfl ?_ hS ?_
  rotate_left
  ·(intro w' _; go_simp; try with_reducible rfl)
  try simp only [Act.put,Sp4,Sp5,Sp6]
  clear hS
  refine AnyG.one (i:=11) (by kernel_rfl) rfl rfl ?_
  go_simp
  refine Onward.last rfl ?_
  try simp only [Act.put,Sp4,Sp5,Sp6]
  refine AnyG.one (i:=12) (by kernel_rfl) rfl rfl ?_
  go_simp
  refine Onward.last rfl ?_
  try simp only [Act.put,Sp4,Sp5,Sp6]
  refine AnyG.one (i:=13) (by kernel_rfl) rfl rfl ?_
  go_simp
  refine Onward.last rfl ?_
  try simp only [Act.put,Sp4,Sp5,Sp6]
  refine AnyG.done (by kernel_rfl) ?_ _
  go_simp
  clear hx1 hx2
  generalize hq : bits BinOp.xor IntKind.u64 _ _ = q
  have hx1 : 0 ≤ q ∧ q < 18446744073709551616:=by rw [← hq]; exact bits_u64 _ _ _
  clear hq
  obtain ⟨hx1,hx2⟩:=hx1
  replace gr : w.grownBy (World.setCell w1 ⟨g,0,none⟩ (.int .u64 q)).drew (some g):=grown_trans (grown_trans gr (grown_set _ g 0 _)) (grown_drew _ _)
  replace hx : Bx (World.setCell w1 ⟨g,0,none⟩ (.int .u64 q)).drew g 88 #[.int .u64 q]:=by simpa using (hx.set_ 0 (.int .u64 q)).drew
  generalize (World.setCell w1 ⟨g,0,none⟩ (.int .u64 q)).drew = w2 at *
  clear a0 af az
  go_wp2_with fail
  obtain ⟨a0,af,az⟩:=hx.one
  refine AnyG.start (fun w' : World => Below w2.heap.size w2 w') (fun i => i != 11 && i != 12 && i != 13) (by kernel_rfl) ?_
  have hS : (fun w' : World => Below w2.heap.size w2 w') (World.drew _):=(Below.refl _ _).drew
  refine AnyG.take (i:=0) (v:=?_) rfl (by kernel_rfl) (fun _ _ _ h => h) rfl ?_ hS ?_
  rotate_left
  ·(intro w' _; go_simp; try with_reducible rfl)
  try simp only [Act.put,Sp4,Sp5,Sp6]
  refine AnyG.take (i:=1) (v:=?_) rfl (by kernel_rfl) (fun _ _ _ h => h) rfl ?_ hS ?_
  rotate_left
  ·(intro w' _; go_simp; try with_reducible rfl)
  try simp only [Act.put,Sp4,Sp5,Sp6]
  refine AnyG.take (i:=2) (v:=?_) rfl (by kernel_rfl) (fun _ _ _ h => h) rfl ?_ hS ?_
  rotate_left
  ·(intro w' _; go_simp; try with_reducible rfl)
  try simp only [Act.put,Sp4,Sp5,Sp6]
  refine AnyG.take (i:=3) (v:=?_) rfl (by kernel_rfl) (fun _ _ _ h => h) rfl ?_ hS ?_
  rotate_left
  ·(intro w' _; go_simp; try with_reducible rfl)
  try simp only [Act.put,Sp4,Sp5,Sp6]
  refine AnyG.take (i:=4) (v:=?_) rfl (by kernel_rfl) (fun _ _ _ h => h) rfl ?_ hS ?_
  rotate_left
  ·(intro w' hSw; (try dsimp only at hSw); have a0:=cellB hSw a0; go_simp; try with_reducible rfl)
  try simp only [Act.put,Sp4,Sp5,Sp6]
  refine AnyG.take (i:=5) (v:=?_) rfl (by kernel_rfl) (fun _ _ _ h => h) rfl ?_ hS ?_
  rotate_left
  ·(intro w' _; go_simp; try with_reducible rfl)
  try simp only [Act.put,Sp4,Sp5,Sp6]
  refine AnyG.take (i:=6) (v:=?_) rfl (by kernel_rfl) (fun _ _ _ h => h) rfl ?_ hS ?_
  rotate_left
  ·(intro w' _; go_simp; try with_reducible rfl)
  try simp only [Act.put,Sp4,Sp5,Sp6]
  refine AnyG.take (i:=7) (v:=?_) rfl (by kernel_rfl) (fun _ _ _ h => h) rfl ?_ hS ?_
  rotate_left
  ·(intro w' _; go_simp; try with_reducible rfl)
  try simp only [Act.put,Sp4,Sp5,Sp6]
  refine AnyG.take (i:=8) (v:=?_) rfl (by kernel_rfl) (fun _ _ _ h => h) rfl ?_ hS ?_
  rotate_left
  ·(intro w' hSw; (try dsimp only at hSw); have a0:=cellB hSw a0; go_simp; try with_reducible rfl)
  try simp only [Act.put,Sp4,Sp5,Sp6]
  refine AnyG.take (i:=9) (v:=?_) rfl (by kernel_rfl) (fun _ _ _ h => h) rfl ?_ hS ?_
  rotate_left
  ·(intro w' _; go_simp; try with_reducible rfl)
  try simp only [Act.put,Sp4,Sp5,Sp6]
  refine AnyG.take (i:=10) (v:=?_) rfl (by kernel_rfl) (fun _ _ _ h => h) rfl ?_ hS ?_
  rotate_left
  ·(intro w' _; go_simp; try with_reducible rfl)
  try simp only [Act.put,Sp4,Sp5,Sp6]
  clear hS
  refine AnyG.one (i:=11) (by kernel_rfl) rfl rfl ?_
  go_simp
  refine Onward.last rfl ?_
  try simp only [Act.put,Sp4,Sp5,Sp6]
  refine AnyG.one (i:=12) (by kernel_rfl) rfl rfl ?_
  go_simp
  refine Onward.last rfl ?_
  try simp only [Act.put,Sp4,Sp5,Sp6]
  refine AnyG.one (i:=13) (by kernel_rfl) rfl rfl ?_
  go_simp
  refine Onward.last rfl ?_
  try simp only [Act.put,Sp4,Sp5,Sp6]
  refine AnyG.done (by kernel_rfl) ?_ _
  go_simp
  clear hx1 hx2
  generalize hq : bits BinOp.xor IntKind.u64 _ _ = q
  have hx1 : 0 ≤ q ∧ q < 18446744073709551616:=by rw [← hq]; exact bits_u64 _ _ _
  clear hq
  obtain ⟨hx1,hx2⟩:=hx1
  replace gr : w.grownBy (World.setCell w2 ⟨g,0,none⟩ (.int .u64 q)).drew (some g):=grown_trans (grown_trans gr (grown_set _ g 0 _)) (grown_drew _ _)
  replace hx : Bx (World.setCell w2 ⟨g,0,none⟩ (.int .u64 q)).drew g 88 #[.int .u64 q]:=by simpa using (hx.set_ 0 (.int .u64 q)).drew
  generalize (World.setCell w2 ⟨g,0,none⟩ (.int .u64 q)).drew = w3 at *
  clear a0 af az
  go_wp2_with fail
  obtain ⟨a0,af,az⟩:=hx.one
  refine AnyG.start (fun w' : World => Below w3.heap.size w3 w') (fun i => i != 11 && i != 12 && i != 13) (by kernel_rfl) ?_
  have hS : (fun w' : World => Below w3.heap.size w3 w') (World.drew _):=(Below.refl _ _).drew
  refine AnyG.take (i:=0) (v:=?_) rfl (by kernel_rfl) (fun _ _ _ h => h) rfl ?_ hS ?_
  rotate_left
  ·(intro w' _; go_simp; try with_reducible rfl)
  try simp only [Act.put,Sp4,Sp5,Sp6]
  refine AnyG.take (i:=1) (v:=?_) rfl (by kernel_rfl) (fun _ _ _ h => h) rfl ?_ hS ?_
  rotate_left
  ·(intro w' _; go_simp; try with_reducible rfl)
  try simp only [Act.put,Sp4,Sp5,Sp6]
  refine AnyG.take (i:=2) (v:=?_) rfl (by kernel_rfl) (fun _ _ _ h => h) rfl ?_ hS ?_
  rotate_left
  ·(intro w' _; go_simp; try with_reducible rfl)
  try simp only [Act.put,Sp4,Sp5,Sp6]
  refine AnyG.take (i:=3) (v:=?_) rfl (by kernel_rfl) (fun _ _ _ h => h) rfl ?_ hS ?_
  rotate_left
  ·(intro w' _; go_simp; try with_reducible rfl)
  try simp only [Act.put,Sp4,Sp5,Sp6]
  refine AnyG.take (i:=4) (v:=?_) rfl (by kernel_rfl) (fun _ _ _ h => h) rfl ?_ hS ?_
  rotate_left
  ·(intro w' hSw; (try dsimp only at hSw); have a0:=cellB hSw a0; go_simp; try with_reducible rfl)
  try simp only [Act.put,Sp4,Sp5,Sp6]
  refine AnyG.take (i:=5) (v:=?_) rfl (by kernel_rfl) (fun _ _ _ h => h) rfl ?_ hS ?_
  rotate_left
  ·(intro w' _; go_simp; try with_reducible rfl)
  try simp only [Act.put,Sp4,Sp5,Sp6]
  refine AnyG.take (i:=6) (v:=?_) rfl (by kernel_rfl) (fun _ _ _ h => h) rfl ?_ hS ?_
  rotate_left
  ·(intro w' _; go_simp; try with_reducible rfl)
  try simp only [Act.put,Sp4,Sp5,Sp6]
  refine AnyG.take (i:=7) (v:=?_) rfl (by kernel_rfl) (fun _ _ _ h => h) rfl ?_ hS ?_
  rotate_left
  ·(intro w' _; go_simp; try with_reducible rfl)
  try simp only [Act.put,Sp4,Sp5,Sp6]
  refine AnyG.take (i:=8) (v:=?_) rfl (by kernel_rfl) (fun _ _ _ h => h) rfl ?_ hS ?_
  rotate_left
  ·(intro w' hSw; (try dsimp only at hSw); have a0:=cellB hSw a0; go_simp; try with_reducible rfl)
  try simp only [Act.put,Sp4,Sp5,Sp6]
  refine AnyG.take (i:=9) (v:=?_) rfl (by kernel_rfl) (fun _ _ _ h => h) rfl ?_ hS ?_
  rotate_left
  ·(intro w' _; go_simp; try with_reducible rfl)
  try simp only [Act.put,Sp4,Sp5,Sp6]
  refine AnyG.take (i:=10) (v:=?_) rfl (by kernel_rfl) (fun _ _ _ h => h) rfl ?_ hS ?_
  rotate_left
  ·(intro w' _; go_simp; try with_reducible rfl)
  try simp only [Act.put,Sp4,Sp5,Sp6]
  clear hS
  refine AnyG.one (i:=11) (by kernel_rfl) rfl rfl ?_
  go_simp
  refine Onward.last rfl ?_
  try simp only [Act.put,Sp4,Sp5,Sp6]
  refine AnyG.one (i:=12) (by kernel_rfl) rfl rfl ?_
  go_simp
  refine Onward.last rfl ?_
  try simp only [Act.put,Sp4,Sp5,Sp6]
  refine AnyG.one (i:=13) (by kernel_rfl) rfl rfl ?_
  go_simp
  refine Onward.last rfl ?_
  try simp only [Act.put,Sp4,Sp5,Sp6]
  refine AnyG.done (by kernel_rfl) ?_ _
  go_simp
  clear hx1 hx2
  generalize hq : bits BinOp.xor IntKind.u64 _ _ = q
  have hx1 : 0 ≤ q ∧ q < 18446744073709551616:=by rw [← hq]; exact bits_u64 _ _ _
  clear hq
  obtain ⟨hx1,hx2⟩:=hx1
  replace gr : w.grownBy (World.setCell w3 ⟨g,0,none⟩ (.int .u64 q)).drew (some g):=grown_trans (grown_trans gr (grown_set _ g 0 _)) (grown_drew _ _)
  replace hx : Bx (World.setCell w3 ⟨g,0,none⟩ (.int .u64 q)).drew g 88 #[.int .u64 q]:=by simpa using (hx.set_ 0 (.int .u64 q)).drew
  generalize (World.setCell w3 ⟨g,0,none⟩ (.int .u64 q)).drew = w4 at *
  clear a0 af az
  obtain ⟨a0,af,az⟩:=hx.one
  go_wp2_with fail
  go_ret
  exact ⟨⟨_,rfl,wrap_u64 _⟩,⟨q,hx1,hx2,hx⟩,gr⟩
 ·go_enter Try.func57,Try.ntmps57
  go_wp2_with fail
  have gr:=grown_refl w (some g)
  replace hx : Bx w g 88 #[.int .u64 x]:=hx
  clear a0 af az
  obtain ⟨a0,af,az⟩:=hx.one
  refine AnyG.start (fun w' : World => Below w.heap.size w w') (fun i => i != 11 && i != 12 && i != 13) (by kernel_rfl) ?_
  have hS : (fun w' : World => Below w.heap.size w w') (World.drew _):=(Below.refl _ _).drew
  refine AnyG.take (i:=0) (v:=?_) rfl (by kernel_rfl) (fun _ _ _ h => h) rfl ?_ hS ?_
  rotate_left
  ·(intro w' _; go_simp; try with_reducible rfl)
  try simp only [Act.put,Sp4,Sp5,Sp6]
  refine AnyG.take (i:=1) (v:=?_) rfl (by kernel_rfl) (fun _ _ _ h => h) rfl ?_ hS ?_
  rotate_left
  ·(intro w' _; go_simp; try with_reducible rfl)
  try simp only [Act.put,Sp4,Sp5,Sp6]
  refine AnyG.take (i:=2) (v:=?_) rfl (by kernel_rfl) (fun _ _ _ h => h) rfl ?_ hS ?_
  rotate_left
  ·(intro w' _; go_simp; try with_reducible rfl)
  try simp only [Act.put,Sp4,Sp5,Sp6]
  refine AnyG.take (i:=3) (v:=?_) rfl (by kernel_rfl) (fun _ _ _ h => h) rfl ?_ hS ?_
  rotate_left
  ·(intro w' _; go_simp; try with_reducible rfl)
  try simp only [Act.put,Sp4,Sp5,Sp6]
  refine AnyG.take (i:=4) (v:=?_) rfl (by kernel_rfl) (fun _ _ _ h => h) rfl ?_ hS ?_
  rotate_left
  ·(intro w' hSw; (try dsimp only at hSw); have a0:=cellB hSw a0; go_simp; try with_reducible rfl)
  try simp only [Act.put,Sp4,Sp5,Sp6]
  refine AnyG.take (i:=5) (v:=?_) rfl (by kernel_rfl) (fun _ _ _ h => h) rfl ?_ hS ?_
  rotate_left
  ·(intro w' _; go_simp; try with_reducible rfl)
  try simp only [Act.put,Sp4,Sp5,Sp6]
  refine AnyG.take (i:=6) (v:=?_) rfl (by kernel_rfl) (fun _ _ _ h => h) rfl ?_ hS ?_
  rotate_left
  ·(intro w' _; go_simp; try with_reducible rfl)
  try simp only [Act.put,Sp4,Sp5,Sp6]
  refine AnyG.take (i:=7) (v:=?_) rfl (by kernel_rfl) (fun _ _ _ h => h) rfl ?_ hS ?_
  rotate_left
  ·(intro w' _; go_simp; try with_reducible rfl)
  try simp only [Act.put,Sp4,Sp5,Sp6]
  refine AnyG.take (i:=8) (v:=?_) rfl (by kernel_rfl) (fun _ _ _ h => h) rfl ?_ hS ?_
  rotate_left
  ·(intro w' hSw; (try dsimp only at hSw); have a0:=cellB hSw a0; go_simp; try with_reducible rfl)
  try simp only [Act.put,Sp4,Sp5,Sp6]
  refine AnyG.take (i:=9) (v:=?_) rfl (by kernel_rfl) (fun _ _ _ h => h) rfl ?_ hS ?_
  rotate_left
  ·(intro w' _; go_simp; try with_reducible rfl)
  try simp only [Act.put,Sp4,Sp5,Sp6]
  refine AnyG.take (i:=10) (v:=?_) rfl (by kernel_rfl) (fun _ _ _ h => h) rfl ?_ hS ?_
  rotate_left
  ·(intro w' _; go_simp; try with_reducible rfl)
  try simp only [Act.put,Sp4,Sp5,Sp6]
  clear hS
  refine AnyG.one (i:=11) (by kernel_rfl) rfl rfl ?_
  go_simp
  refine Onward.last rfl ?_
  try simp only [Act.put,Sp4,Sp5,Sp6]
  refine AnyG.one (i:=12) (by kernel_rfl) rfl rfl ?_
  go_simp
  refine Onward.last rfl ?_
  try simp only [Act.put,Sp4,Sp5,Sp6]
  refine AnyG.one (i:=13) (by kernel_rfl) rfl rfl ?_
  go_simp
  refine Onward.last rfl ?_
  try simp only [Act.put,Sp4,Sp5,Sp6]
  refine AnyG.done (by kernel_rfl) ?_ _
  go_simp
  clear hx1 hx2
  generalize hq : bits BinOp.xor IntKind.u64 _ _ = q
  have hx1 : 0 ≤ q ∧ q < 18446744073709551616:=by rw [← hq]; exact bits_u64 _ _ _
  clear hq
  obtain ⟨hx1,hx2⟩:=hx1
  replace gr : w.grownBy (World.setCell w ⟨g,0,none⟩ (.int .u64 q)).drew (some g):=grown_trans (grown_trans gr (grown_set _ g 0 _)) (grown_drew _ _)
  replace hx : Bx (World.setCell w ⟨g,0,none⟩ (.int .u64 q)).drew g 88 #[.int .u64 q]:=by simpa using (hx.set_ 0 (.int .u64 q)).drew
  generalize (World.setCell w ⟨g,0,none⟩ (.int .u64 q)).drew = w2 at *
  clear a0 af az
  go_wp2_with fail
  obtain ⟨a0,af,az⟩:=hx.one
  refine AnyG.start (fun w' : World => Below w2.heap.size w2 w') (fun i => i != 11 && i != 12 && i != 13) (by kernel_rfl) ?_
  have hS : (fun w' : World => Below w2.heap.size w2 w') (World.drew _):=(Below.refl _ _).drew
  refine AnyG.take (i:=0) (v:=?_) rfl (by kernel_rfl) (fun _ _ _ h => h) rfl ?_ hS ?_
  rotate_left
  ·(intro w' _; go_simp; try with_reducible rfl)
  try simp only [Act.put,Sp4,Sp5,Sp6]
  refine AnyG.take (i:=1) (v:=?_) rfl (by kernel_rfl) (fun _ _ _ h => h) rfl ?_ hS ?_
  rotate_left
  ·(intro w' _; go_simp; try with_reducible rfl)
  try simp only [Act.put,Sp4,Sp5,Sp6]
  refine AnyG.take (i:=2) (v:=?_) rfl (by kernel_rfl) (fun _ _ _ h => h) rfl ?_ hS ?_
  rotate_left
  ·(intro w' _; go_simp; try with_reducible rfl)
  try simp only [Act.put,Sp4,Sp5,Sp6]
  refine AnyG.take (i:=3) (v:=?_) rfl (by kernel_rfl) (fun _ _ _ h => h) rfl ?_ hS ?_
  rotate_left
  ·(intro w' _; go_simp; try with_reducible rfl)
  try simp only [Act.put,Sp4,Sp5,Sp6]
  refine AnyG.take (i:=4) (v:=?_) rfl (by kernel_rfl) (fun _ _ _ h => h) rfl ?_ hS ?_
  rotate_left
  ·(intro w' hSw; (try dsimp only at hSw); have a0:=cellB hSw a0; go_simp; try with_reducible rfl)
  try simp only [Act.put,Sp4,Sp5,Sp6]
  refine AnyG.take (i:=5) (v:=?_) rfl (by kernel_rfl) (fun _ _ _ h => h) rfl ?_ hS ?_
  rotate_left
  ·(intro w' _; go_simp; try with_reducible rfl)
  try simp only [Act.put,Sp4,Sp5,Sp6]
  refine AnyG.take (i:=6) (v:=?_) rfl (by kernel_rfl) (fun _ _ _ h => h) rfl ?_ hS ?_
  rotate_left
  ·(intro w' _; go_simp; try with_reducible rfl)
  try simp only [Act.put,Sp4,Sp5,Sp6]
  refine AnyG.take (i:=7) (v:=?_) rfl (by kernel_rfl) (fun _ _ _ h => h) rfl ?_ hS ?_
  rotate_left
  ·(intro w' _; go_simp; try with_reducible rfl)
  try simp only [Act.put,Sp4,Sp5,Sp6]
  refine AnyG.take (i:=8) (v:=?_) rfl (by kernel_rfl) (fun _ _ _ h => h) rfl ?_ hS ?_
  rotate_left
  ·(intro w' hSw; (try dsimp only at hSw); have a0:=cellB hSw a0; go_simp; try with_reducible rfl)
  try simp only [Act.put,Sp4,Sp5,Sp6]
  refine AnyG.take (i:=9) (v:=?_) rfl (by kernel_rfl) (fun _ _ _ h => h) rfl ?_ hS ?_
  rotate_left
  ·(intro w' _; go_simp; try with_reducible rfl)
  try simp only [Act.put,Sp4,Sp5,Sp6]
  refine AnyG.take (i:=10) (v:=?_) rfl (by kernel_rfl) (fun _ _ _ h => h) rfl ?_ hS ?_
  rotate_left
  ·(intro w' _; go_simp; try with_reducible rfl)
  try simp only [Act.put,Sp4,Sp5,Sp6]
  clear hS
  refine AnyG.one (i:=11) (by kernel_rfl) rfl rfl ?_
  go_simp
  refine Onward.last rfl ?_
  try simp only [Act.put,Sp4,Sp5,Sp6]
  refine AnyG.one (i:=12) (by kernel_rfl) rfl rfl ?_
  go_simp
  refine Onward.last rfl ?_
  try simp only [Act.put,Sp4,Sp5,Sp6]
  refine AnyG.one (i:=13) (by kernel_rfl) rfl rfl ?_
  go_simp
  refine Onward.last rfl ?_
  try simp only [Act.put,Sp4,Sp5,Sp6]
  refine AnyG.done (by kernel_rfl) ?_ _
  go_simp
  clear hx1 hx2
  generalize hq : bits BinOp.xor IntKind.u64 _ _ = q
  have hx1 : 0 ≤ q ∧ q < 18446744073709551616:=by rw [← hq]; exact bits_u64 _ _ _
  clear hq
  obtain ⟨hx1,hx2⟩:=hx1
  replace gr : w.grownBy (World.setCell w2 ⟨g,0,none⟩ (.int .u64 q)).drew (some g):=grown_trans (grown_trans gr (grown_set _ g 0 _)) (grown_drew _ _)
  replace hx : Bx (World.setCell w2 ⟨g,0,none⟩ (.int .u64 q)).drew g 88 #[.int .u64 q]:=by simpa using (hx.set_ 0 (.int .u64 q)).drew
  generalize (World.setCell w2 ⟨g,0,none⟩ (.int .u64 q)).drew = w3 at *
  clear a0 af az
  go_wp2_with fail
  obtain ⟨a0,af,az⟩:=hx.one
  refine AnyG.start (fun w' : World => Below w3.heap.size w3 w') (fun i => i != 11 && i != 12 && i != 13) (by kernel_rfl) ?_
  have hS : (fun w' : World => Below w3.heap.size w3 w') (World.drew _):=(Below.refl _ _).drew
  refine AnyG.take (i:=0) (v:=?_) rfl (by kernel_rfl) (fun _ _ _ h => h) rfl ?_ hS ?_
  rotate_left
  ·(intro w' _; go_simp; try with_reducible rfl)
  try simp only [Act.put,Sp4,Sp5,Sp6]
  refine AnyG.take (i:=1) (v:=?_) rfl (by kernel_rfl) (fun _ _ _ h => h) rfl ?_ hS ?_
  rotate_left
  ·(intro w' _; go_simp; try with_reducible rfl)
  try simp only [Act.put,Sp4,Sp5,Sp6]
  refine AnyG.take (i:=2) (v:=?_) rfl (by kernel_rfl) (fun _ _ _ h => h) rfl ?_ hS ?_
  rotate_left
  ·(intro w' _; go_simp; try with_reducible rfl)
  try simp only [Act.put,Sp4,Sp5,Sp6]
  refine AnyG.take (i:=3) (v:=?_) rfl (by kernel_rfl) (fun _ _ _ h => h) rfl ?_ hS ?_
  rotate_left
  ·(intro w' _; go_simp; try with_reducible rfl)
  try simp only [Act.put,Sp4,Sp5,Sp6]
  refine AnyG.take (i:=4) (v:=?_) rfl (by kernel_rfl) (fun _ _ _ h => h) rfl ?_ hS ?_
  rotate_left
  ·(intro w' hSw; (try dsimp only at hSw); have a0:=cellB hSw a0; go_simp; try with_reducible rfl)
  try simp only [Act.put,Sp4,Sp5,Sp6]
  refine AnyG.take (i:=5) (v:=?_) rfl (by kernel_rfl) (fun _ _ _ h => h) rfl ?_ hS ?_
  rotate_left
  ·(intro w' _; go_simp; try with_reducible rfl)
  try simp only [Act.put,Sp4,Sp5,Sp6]
  refine AnyG.take (i:=6) (v:=?_) rfl (by kernel_rfl) (fun _ _ _ h => h) rfl ?_ hS ?_
  rotate_left
  ·(intro w' _; go_simp; try with_reducible rfl)
  try simp only [Act.put,Sp4,Sp5,Sp6]
  refine AnyG.take (i:=7) (v:=?_) rfl (by kernel_rfl) (fun _ _ _ h => h) rfl ?_ hS ?_
  rotate_left
  ·(intro w' _; go_simp; try with_reducible rfl)
  try simp only [Act.put,Sp4,Sp5,Sp6]
  refine AnyG.take (i:=8) (v:=?_) rfl (by kernel_rfl) (fun _ _ _ h => h) rfl ?_ hS ?_
  rotate_left
  ·(intro w' hSw; (try dsimp only at hSw); have a0:=cellB hSw a0; go_simp; try with_reducible rfl)
  try simp only [Act.put,Sp4,Sp5,Sp6]
  refine AnyG.take (i:=9) (v:=?_) rfl (by kernel_rfl) (fun _ _ _ h => h) rfl ?_ hS ?_
  rotate_left
  ·(intro w' _; go_simp; try with_reducible rfl)
  try simp only [Act.put,Sp4,Sp5,Sp6]
  refine AnyG.take (i:=10) (v:=?_) rfl (by kernel_rfl) (fun _ _ _ h => h) rfl ?_ hS ?_
  rotate_left
  ·(intro w' _; go_simp; try with_reducible rfl)
  try simp only [Act.put,Sp4,Sp5,Sp6]
  clear hS
  refine AnyG.one (i:=11) (by kernel_rfl) rfl rfl ?_
  go_simp
  refine Onward.last rfl ?_
  try simp only [Act.put,Sp4,Sp5,Sp6]
  refine AnyG.one (i:=12) (by kernel_rfl) rfl rfl ?_
  go_simp
  refine Onward.last rfl ?_
  try simp only [Act.put,Sp4,Sp5,Sp6]
  refine AnyG.one (i:=13) (by kernel_rfl) rfl rfl ?_
  go_simp
  refine Onward.last rfl ?_
  try simp only [Act.put,Sp4,Sp5,Sp6]
  refine AnyG.done (by kernel_rfl) ?_ _
  go_simp
  clear hx1 hx2
  generalize hq : bits BinOp.xor IntKind.u64 _ _ = q
  have hx1 : 0 ≤ q ∧ q < 18446744073709551616:=by rw [← hq]; exact bits_u64 _ _ _
  clear hq
  obtain ⟨hx1,hx2⟩:=hx1
  replace gr : w.grownBy (World.setCell w3 ⟨g,0,none⟩ (.int .u64 q)).drew (some g):=grown_trans (grown_trans gr (grown_set _ g 0 _)) (grown_drew _ _)
  replace hx : Bx (World.setCell w3 ⟨g,0,none⟩ (.int .u64 q)).drew g 88 #[.int .u64 q]:=by simpa using (hx.set_ 0 (.int .u64 q)).drew
  generalize (World.setCell w3 ⟨g,0,none⟩ (.int .u64 q)).drew = w4 at *
  clear a0 af az
  obtain ⟨a0,af,az⟩:=hx.one
  go_wp2_with fail
  go_ret
  exact ⟨⟨_,rfl,wrap_u64 _⟩,⟨q,hx1,hx2,hx⟩,gr⟩
end Go.Proofs.Ytgbogdckmfencaa
