/- Boxes of blends: melt.box.middle, after, blends; wholeBox. -/
import Derived.Test.YtmemcopfeabcgaaRbM
set_option linter.unusedSimpArgs false
set_option linter.unusedVariables false
namespace Go.Proofs.Ytmemcopfeabcgaa
open Go Go.RowKit
theorem mid_first {lo hi : Nat → Int} {k : Nat} (hk : k < 4) (h : ∀ i,i < k → lo i = hi i) (hne : lo k ≠ hi k) : mid lo hi = k:=by
 unfold mid
 rcases four hk with rfl | rfl | rfl | rfl
 ·rw [if_pos hne]
 ·rw [if_neg (fun h' => h' (h 0 (by omega))),if_pos hne]
 ·rw [if_neg (fun h' => h' (h 0 (by omega))),if_neg (fun h' => h' (h 1 (by omega))),if_pos hne]
 ·rw [if_neg (fun h' => h' (h 0 (by omega))),if_neg (fun h' => h' (h 1 (by omega))),if_neg (fun h' => h' (h 2 (by omega)))]
set_option maxRecDepth 100000 in
set_option maxHeartbeats 2000000 in
theorem middle_any (lo hi : Nat → Int) (w : World) (hb : BoxOk lo hi) (h1 : one4 lo hi = false) :
  Calls Try.prog 99 #[.agg (xarr lo hi)] w fun e w' => e = .returned (.tuple #[.int .i64 (mid lo hi : Int),.int .i64 (cutAt lo hi)]) ∧ Below w.heap.size w w':=by
 have k1:=Bx.new w 91 (xarr lo hi)
 have B0:=(Below.refl w.heap.size w).alloc (Nat.le_refl _) (.cells (xarr lo hi) 91)
 have HM:=Lib.hid (mid_lt h1)
 have HBX:=Lib.hid hb
 clear hb h1
 go_enter Try.func99,Try.ntmps99
 go_wp2_with fail
 go_loopw [2] (fun i wr => ∃ k : Nat,k < 4 ∧ i = .int .i64 k ∧ Hid (∀ j,j < k → lo j = hi j) ∧ Bx wr w.heap.size 91 (xarr lo hi) ∧ Below w.heap.size w wr) (fun i _ => 4 - (intOf i).toNat)
 case atStart => exact ⟨0,by omega,rfl,Lib.hid (fun j hj => absurd hj (by omega)),k1,B0⟩
 case round =>
  clear k1 B0
  obtain ⟨k,hk,rfl,hd,k1,hB⟩:=hrel
  have hki : (k : Int) < 4:=by omega
  obtain ⟨a,ha⟩ : ∃ a,lo k = a:=⟨_,rfl⟩
  obtain ⟨b,hb⟩ : ∃ b,hi k = b:=⟨_,rfl⟩
  have q0:=(k1.cell (k * 2)).trans (xarr_lo lo hi hk)
  have q1:=(k1.cell (k * 2 + 1)).trans (xarr_hi lo hi hk)
  rw [ha] at q0
  rw [hb] at q1
  by_cases hab : a = b
  ·have hk3 : k < 3:=by
    refine Nat.lt_of_not_le fun h3 => HM.out.2 ?_
    have e : k = 3:=by omega
    have hall : ∀ j,j < 4 → lo j = hi j:=fun j hj => by
     by_cases hjk : j < k
     ·exact hd.out j hjk
     ·have : j = k:=by omega
      subst this
      rw [ha,hb,hab]
    exact hall _ HM.out.1
   have hd' : Hid (∀ j,j < k + 1 → lo j = hi j):=Lib.hid fun j hj => by
    by_cases hjk : j < k
    ·exact hd.out j hjk
    ·have : j = k:=by omega
     subst this
     rw [ha,hb,hab]
   have hab' : (a == b) = true:=by rw [beq_iff_eq]; exact hab
   have hwk : IntKind.i64.wrap ((k : Int) + 1) = (k : Int) + 1:=IntWalk.i64_in _ (by omega)
   clear hab ha hb
   go_wp2_with fail
   refine AnyG.startC (by kernel_rfl) ?_
   refine AnyG.takeP (i:=0) (v:=?_) rfl (by kernel_rfl) (fun _ _ _ h => h) rfl ?_ ?_
   rotate_left
   ·(intro w'; go_simp; try with_reducible rfl)
   try simp only [Act.put,Sp1,Sp2,Sp3,Sp4,Sp5,Sp6]
   refine AnyG.takeP (i:=1) (v:=?_) rfl (by kernel_rfl) (fun _ _ _ h => h) rfl ?_ ?_
   rotate_left
   ·(intro w'; go_simp; try with_reducible rfl)
   try simp only [Act.put,Sp1,Sp2,Sp3,Sp4,Sp5,Sp6]
   refine AnyG.takeP (i:=2) (v:=?_) rfl (by kernel_rfl) (fun _ _ _ h => h) rfl ?_ ?_
   rotate_left
   ·(intro w'; go_simp; try with_reducible rfl)
   try simp only [Act.put,Sp1,Sp2,Sp3,Sp4,Sp5,Sp6]
   refine AnyG.takeP (i:=4) (v:=?_) rfl (by kernel_rfl) (fun _ _ _ h => h) rfl ?_ ?_
   rotate_left
   ·(intro w'; go_simp; try with_reducible rfl)
   try simp only [Act.put,Sp1,Sp2,Sp3,Sp4,Sp5,Sp6]
   refine AnyG.takeP (i:=5) (v:=?_) rfl (by kernel_rfl) (fun _ _ _ h => h) rfl ?_ ?_
   rotate_left
   ·(intro w'; go_simp; try with_reducible rfl)
   try simp only [Act.put,Sp1,Sp2,Sp3,Sp4,Sp5,Sp6]
   refine AnyG.takeP (i:=6) (v:=?_) rfl (by kernel_rfl) (fun _ _ _ h => h) rfl ?_ ?_
   rotate_left
   ·(intro w'; go_simp; try with_reducible rfl)
   try simp only [Act.put,Sp1,Sp2,Sp3,Sp4,Sp5,Sp6]
   refine AnyG.enter (fun w' : World => Below wr.heap.size wr w') (fun i => true) ?_
   have hS : (fun w' : World => Below wr.heap.size wr w') (World.drew _):=(Below.refl _ _).drew
   refine AnyG.takeC (i:=3) (v:=?_) rfl (by kernel_rfl) (fun _ _ _ h => h) rfl ?_ hS ?_
   rotate_left
   ·(intro w' hSw; (try dsimp only at hSw); have q0:=cellC hSw q0; have q1:=cellC hSw q1; go_simp; try with_reducible rfl)
   try simp only [Act.put,Sp1,Sp2,Sp3,Sp4,Sp5,Sp6]
   refine AnyG.takeC (i:=7) (v:=?_) rfl (by kernel_rfl) (fun _ _ _ h => h) rfl ?_ hS ?_
   rotate_left
   ·(intro w' hSw; (try dsimp only at hSw); have q0:=cellC hSw q0; have q1:=cellC hSw q1; go_simp; try with_reducible rfl)
   try simp only [Act.put,Sp1,Sp2,Sp3,Sp4,Sp5,Sp6]
   refine AnyG.takeC (i:=8) (v:=?_) rfl (by kernel_rfl) (fun _ _ _ h => h) rfl ?_ hS ?_
   rotate_left
   ·(intro w' hSw; (try dsimp only at hSw); go_simp; try with_reducible rfl)
   try simp only [Act.put,Sp1,Sp2,Sp3,Sp4,Sp5,Sp6]
   refine AnyG.done (by kernel_rfl) ?_ _
   go_simp
   go_wp2_with fail
   go_roundw
   case rel => exact ⟨k + 1,by omega,by go_num,hd',k1.drew,hB.drew⟩
   case measure => simp [intOf]; omega
  ·have hmk : mid lo hi = k:=mid_first hk hd.out (by rw [ha,hb]; exact hab)
   have hab' : (a == b) = false:=by rw [beq_eq_false_iff_ne]; exact hab
   have hR : Hid ((mid lo hi : Int) = k ∧ cutAt lo hi = (a + b).tdiv 2):=by unfold Hid cutAt; rw [hmk,ha,hb]; exact ⟨rfl,rfl⟩
   have a6:=HBX.out.six k
   have b6:=HBX.out.six2 k
   rw [ha] at a6
   rw [hb] at b6
   have hw1 : IntKind.i64.wrap (a + b) = a + b:=IntWalk.i64_in _ (by omega)
   have hw2 : IntKind.i64.wrap ((a + b).tdiv 2) = (a + b).tdiv 2:=IntWalk.i64_in _ (by rw [Int.tdiv_eq_ediv_of_nonneg (by omega)]; omega)
   clear hab ha hb hmk
   go_wp2_with fail
   refine AnyG.startC (by kernel_rfl) ?_
   refine AnyG.takeP (i:=0) (v:=?_) rfl (by kernel_rfl) (fun _ _ _ h => h) rfl ?_ ?_
   rotate_left
   ·(intro w'; go_simp; try with_reducible rfl)
   try simp only [Act.put,Sp1,Sp2,Sp3,Sp4,Sp5,Sp6]
   refine AnyG.takeP (i:=1) (v:=?_) rfl (by kernel_rfl) (fun _ _ _ h => h) rfl ?_ ?_
   rotate_left
   ·(intro w'; go_simp; try with_reducible rfl)
   try simp only [Act.put,Sp1,Sp2,Sp3,Sp4,Sp5,Sp6]
   refine AnyG.takeP (i:=2) (v:=?_) rfl (by kernel_rfl) (fun _ _ _ h => h) rfl ?_ ?_
   rotate_left
   ·(intro w'; go_simp; try with_reducible rfl)
   try simp only [Act.put,Sp1,Sp2,Sp3,Sp4,Sp5,Sp6]
   refine AnyG.takeP (i:=4) (v:=?_) rfl (by kernel_rfl) (fun _ _ _ h => h) rfl ?_ ?_
   rotate_left
   ·(intro w'; go_simp; try with_reducible rfl)
   try simp only [Act.put,Sp1,Sp2,Sp3,Sp4,Sp5,Sp6]
   refine AnyG.takeP (i:=5) (v:=?_) rfl (by kernel_rfl) (fun _ _ _ h => h) rfl ?_ ?_
   rotate_left
   ·(intro w'; go_simp; try with_reducible rfl)
   try simp only [Act.put,Sp1,Sp2,Sp3,Sp4,Sp5,Sp6]
   refine AnyG.takeP (i:=6) (v:=?_) rfl (by kernel_rfl) (fun _ _ _ h => h) rfl ?_ ?_
   rotate_left
   ·(intro w'; go_simp; try with_reducible rfl)
   try simp only [Act.put,Sp1,Sp2,Sp3,Sp4,Sp5,Sp6]
   refine AnyG.enter (fun w' : World => Below wr.heap.size wr w') (fun i => true) ?_
   have hS : (fun w' : World => Below wr.heap.size wr w') (World.drew _):=(Below.refl _ _).drew
   refine AnyG.takeC (i:=3) (v:=?_) rfl (by kernel_rfl) (fun _ _ _ h => h) rfl ?_ hS ?_
   rotate_left
   ·(intro w' hSw; (try dsimp only at hSw); have q0:=cellC hSw q0; have q1:=cellC hSw q1; go_simp; try with_reducible rfl)
   try simp only [Act.put,Sp1,Sp2,Sp3,Sp4,Sp5,Sp6]
   refine AnyG.takeC (i:=7) (v:=?_) rfl (by kernel_rfl) (fun _ _ _ h => h) rfl ?_ hS ?_
   rotate_left
   ·(intro w' hSw; (try dsimp only at hSw); have q0:=cellC hSw q0; have q1:=cellC hSw q1; go_simp; try with_reducible rfl)
   try simp only [Act.put,Sp1,Sp2,Sp3,Sp4,Sp5,Sp6]
   refine AnyG.takeC (i:=8) (v:=?_) rfl (by kernel_rfl) (fun _ _ _ h => h) rfl ?_ hS ?_
   rotate_left
   ·(intro w' hSw; (try dsimp only at hSw); go_simp; try with_reducible rfl)
   try simp only [Act.put,Sp1,Sp2,Sp3,Sp4,Sp5,Sp6]
   refine AnyG.done (by kernel_rfl) ?_ _
   go_simp
   go_wp2_with fail
   obtain ⟨wr2,hwr2⟩ : ∃ wr2,wr.drew = wr2:=⟨_,rfl⟩
   have q0:=cellC (hwr2 ▸ (Below.refl wr.heap.size wr).drew : Below wr.heap.size wr wr2) q0
   have q1:=cellC (hwr2 ▸ (Below.refl wr.heap.size wr).drew : Below wr.heap.size wr wr2) q1
   have hB2 : Below w.heap.size w wr2:=hwr2 ▸ hB.drew
   rw [hwr2]
   clear hwr2 hS
   refine AnyG.startC (by kernel_rfl) ?_
   refine AnyG.takeP (i:=0) (v:=?_) rfl (by kernel_rfl) (fun _ _ _ h => h) rfl ?_ ?_
   rotate_left
   ·(intro w'; go_simp; try with_reducible rfl)
   try simp only [Act.put,Sp1,Sp2,Sp3,Sp4,Sp5,Sp6]
   refine AnyG.takeP (i:=1) (v:=?_) rfl (by kernel_rfl) (fun _ _ _ h => h) rfl ?_ ?_
   rotate_left
   ·(intro w'; go_simp; try with_reducible rfl)
   try simp only [Act.put,Sp1,Sp2,Sp3,Sp4,Sp5,Sp6]
   refine AnyG.takeP (i:=2) (v:=?_) rfl (by kernel_rfl) (fun _ _ _ h => h) rfl ?_ ?_
   rotate_left
   ·(intro w'; go_simp; try with_reducible rfl)
   try simp only [Act.put,Sp1,Sp2,Sp3,Sp4,Sp5,Sp6]
   refine AnyG.takeP (i:=3) (v:=?_) rfl (by kernel_rfl) (fun _ _ _ h => h) rfl ?_ ?_
   rotate_left
   ·(intro w'; go_simp; try with_reducible rfl)
   try simp only [Act.put,Sp1,Sp2,Sp3,Sp4,Sp5,Sp6]
   refine AnyG.takeP (i:=5) (v:=?_) rfl (by kernel_rfl) (fun _ _ _ h => h) rfl ?_ ?_
   rotate_left
   ·(intro w'; go_simp; try with_reducible rfl)
   try simp only [Act.put,Sp1,Sp2,Sp3,Sp4,Sp5,Sp6]
   refine AnyG.takeP (i:=6) (v:=?_) rfl (by kernel_rfl) (fun _ _ _ h => h) rfl ?_ ?_
   rotate_left
   ·(intro w'; go_simp; try with_reducible rfl)
   try simp only [Act.put,Sp1,Sp2,Sp3,Sp4,Sp5,Sp6]
   refine AnyG.takeP (i:=7) (v:=?_) rfl (by kernel_rfl) (fun _ _ _ h => h) rfl ?_ ?_
   rotate_left
   ·(intro w'; go_simp; try with_reducible rfl)
   try simp only [Act.put,Sp1,Sp2,Sp3,Sp4,Sp5,Sp6]
   refine AnyG.enter (fun w' : World => Below wr2.heap.size wr2 w') (fun i => true) ?_
   have hS : (fun w' : World => Below wr2.heap.size wr2 w') (World.drew _):=(Below.refl _ _).drew
   refine AnyG.takeC (i:=4) (v:=?_) rfl (by kernel_rfl) (fun _ _ _ h => h) rfl ?_ hS ?_
   rotate_left
   ·(intro w' hSw; (try dsimp only at hSw); have q0:=cellC hSw q0; have q1:=cellC hSw q1; go_simp; try with_reducible rfl)
   try simp only [Act.put,Sp1,Sp2,Sp3,Sp4,Sp5,Sp6]
   refine AnyG.takeC (i:=8) (v:=?_) rfl (by kernel_rfl) (fun _ _ _ h => h) rfl ?_ hS ?_
   rotate_left
   ·(intro w' hSw; (try dsimp only at hSw); have q0:=cellC hSw q0; have q1:=cellC hSw q1; go_simp; try with_reducible rfl)
   try simp only [Act.put,Sp1,Sp2,Sp3,Sp4,Sp5,Sp6]
   refine AnyG.takeC (i:=9) (v:=?_) rfl (by kernel_rfl) (fun _ _ _ h => h) rfl ?_ hS ?_
   rotate_left
   ·(intro w' hSw; (try dsimp only at hSw); go_simp; try with_reducible rfl)
   try simp only [Act.put,Sp1,Sp2,Sp3,Sp4,Sp5,Sp6]
   refine AnyG.takeC (i:=10) (v:=?_) rfl (by kernel_rfl) (fun _ _ _ h => h) rfl ?_ hS ?_
   rotate_left
   ·(intro w' hSw; (try dsimp only at hSw); go_simp; try with_reducible rfl)
   try simp only [Act.put,Sp1,Sp2,Sp3,Sp4,Sp5,Sp6]
   refine AnyG.takeC (i:=11) (v:=?_) rfl (by kernel_rfl) (fun _ _ _ h => h) rfl ?_ hS ?_
   rotate_left
   ·(intro w' hSw; (try dsimp only at hSw); go_simp; try with_reducible rfl)
   try simp only [Act.put,Sp1,Sp2,Sp3,Sp4,Sp5,Sp6]
   refine AnyG.takeC (i:=12) (v:=?_) rfl (by kernel_rfl) (fun _ _ _ h => h) rfl ?_ hS ?_
   rotate_left
   ·(intro w' hSw; (try dsimp only at hSw); go_simp; try with_reducible rfl)
   try simp only [Act.put,Sp1,Sp2,Sp3,Sp4,Sp5,Sp6]
   refine AnyG.done (by kernel_rfl) ?_ _
   go_simp
   go_wp2_with fail
   refine bodyPost_ret (v:=.tuple #[.int .i64 k,.int .i64 ((a + b).tdiv 2)]) (by simp [results,Try.results99,go_sem,hw1,hw2]) rfl ⟨by rw [hR.out.1,hR.out.2],hB2.drew⟩
end Go.Proofs.Ytmemcopfeabcgaa

/-! Boxes of blends: melt.box.after, blends; wholeBox. -/
namespace Go.Proofs.Ytmemcopfeabcgaa
open Go Go.RowKit
def resf (lo d : Nat → Int) (m : Nat) : Nat → Int:=fun i => if i < m then d i else lo i
theorem aft_some {lo hi d : Nat → Int} {k : Nat} (hk : k < 4) (h : ∀ i,k < i → i < 4 → ¬ d i < hi i) (h1 : d k < hi k) : ∃ f,aft lo hi d = some f ∧ barr f = barr (up1 (resf lo d (k + 1)) k (d k + 1)):=by
 unfold aft
 rcases four hk with rfl | rfl | rfl | rfl
 ·rw [if_neg (h 3 (by omega) (by omega)),if_neg (h 2 (by omega) (by omega)),if_neg (h 1 (by omega) (by omega)),if_pos h1]
  exact ⟨_,rfl,barr_congr fun i hi => by rcases four hi with rfl | rfl | rfl | rfl <;> simp [up1,resf]⟩
 ·rw [if_neg (h 3 (by omega) (by omega)),if_neg (h 2 (by omega) (by omega)),if_pos h1]
  exact ⟨_,rfl,barr_congr fun i hi => by rcases four hi with rfl | rfl | rfl | rfl <;> simp [up1,resf]⟩
 ·rw [if_neg (h 3 (by omega) (by omega)),if_pos h1]
  exact ⟨_,rfl,barr_congr fun i hi => by rcases four hi with rfl | rfl | rfl | rfl <;> simp [up1,resf]⟩
 ·rw [if_pos h1]
  exact ⟨_,rfl,barr_congr fun i hi => by rcases four hi with rfl | rfl | rfl | rfl <;> simp [up1,resf]⟩
theorem aft_no {lo hi d : Nat → Int} (h : ∀ i,i < 4 → ¬ d i < hi i) : aft lo hi d = none:=by
 unfold aft
 rw [if_neg (h 3 (by omega)),if_neg (h 2 (by omega)),if_neg (h 1 (by omega)),if_neg (h 0 (by omega))]
theorem resf4 (lo d : Nat → Int) : barr (resf lo d 4) = barr d:=barr_congr fun i hi => by simp [resf,hi]
theorem resf_step (lo d : Nat → Int) {k : Nat} (hk : k < 4) : barr (up1 (resf lo d (k + 1)) k (lo k)) = barr (resf lo d k):=barr_congr fun i hi => by
 unfold up1 resf
 by_cases h : i = k
 ·subst h; simp
 ·rw [if_neg h]
  by_cases h2 : i < k
  ·rw [if_pos (by omega),if_pos h2]
  ·rw [if_neg (by omega),if_neg h2]
/-- What after returns. -/
def aftV (lo hi d : Nat → Int) : Value:=match aft lo hi d with
 | some f => .tuple #[.agg (barr f),.bool true]
 | none => .tuple #[.agg (barr d),.bool false]
set_option maxRecDepth 100000 in
set_option maxHeartbeats 2000000 in
theorem after_any (lo hi d : Nat → Int) (w : World) (hd : ∀ i,i < 4 → 0 ≤ d i ∧ d i ≤ 6) :
  Calls Try.prog 86 #[.agg (xarr lo hi),.agg (barr d)] w fun e w' => e = .returned (aftV lo hi d) ∧ Below w.heap.size w w':=by
 have k1:=((Bx.new w 91 (xarr lo hi)).alloc (.cells (barr d) 81)).alloc (.cells (barr (cutf 0 d)) 81)
 have k2:=(Bx.at (w.alloc (.cells (xarr lo hi) 91)) 81 (barr d) (n:=w.heap.size + 1) (by simp)).alloc (.cells (barr (cutf 0 d)) 81)
 have k3:=Bx.at ((w.alloc (.cells (xarr lo hi) 91)).alloc (.cells (barr d) 81)) 81 (barr (cutf 0 d)) (n:=w.heap.size + 1 + 1) (by simp)
 have B0:=(((Below.refl w.heap.size w).alloc (Nat.le_refl _) (.cells (xarr lo hi) 91)).alloc (by simp) (.cells (barr d) 81)).alloc (by simp; omega) (.cells (barr (cutf 0 d)) 81)
 obtain ⟨W1,hW1⟩ : ∃ W1,((w.alloc (.cells (xarr lo hi) 91)).alloc (.cells (barr d) 81)).alloc (.cells (barr (cutf 0 d)) 81) = W1:=⟨_,rfl⟩
 have hz1 : W1.heap.size = w.heap.size + 1 + 1 + 1:=by rw [← hW1]; simp
 rw [hW1] at k1 k2 k3 B0
 rw [barr_cut0] at hW1
 have HW:=Lib.hid hW1
 clear hW1
 have k4:=Bx.at W1 81 (barr d) (n:=w.heap.size + 1 + 1 + 1) hz1.symm
 have B1:=B0.alloc B0.size (.cells (barr d) 81)
 replace k1:=k1.alloc (.cells (barr d) 81)
 have k2':=k2
 replace k2:=k2.alloc (.cells (barr d) 81)
 replace k3:=k3.alloc (.cells (barr d) 81)
 obtain ⟨W2,hW2⟩ : ∃ W2,W1.alloc (.cells (barr d) 81) = W2:=⟨_,rfl⟩
 rw [hW2] at k1 k2 k3 k4 B1
 have HZ:=Lib.hid hz1
 rw [barr_def] at hW2
 have HW2:=Lib.hid hW2
 clear hW2 hz1
 obtain ⟨p0,p1,p2,p3,pf,pz⟩:=k2'.barr
 go_enter Try.func86,Try.ntmps86
 go_wp2_with (first | ((with_reducible (show wpList _ _ _ (⟨some 8,_,_,_,_,_⟩ :: _) _ _)); rw [HW.out]))
 rw [HW2.out,HZ.out]
 clear p0 p1 p2 p3 pf pz k2'
 go_loopw [7] (fun i wr => ∃ (m : Nat) (z : Int),m ≤ 4 ∧ z = (m : Int) - 1 ∧ i = .int .i64 z ∧ Hid (∀ j,m ≤ j → j < 4 → hi j ≤ d j) ∧ Bx wr w.heap.size 91 (xarr lo hi) ∧ Bx wr (w.heap.size + 1) 81 (barr d) ∧ Bx wr (w.heap.size + 1 + 1) 81 (barr (cutf 0 d)) ∧ Bx wr (w.heap.size + 1 + 1 + 1) 81 (barr (resf lo d m)) ∧ Below w.heap.size w wr) (fun i _ => (intOf i + 1).toNat)
 case atStart => exact ⟨4,3,by omega,rfl,rfl,Lib.hid (fun j h1 h2 => absurd h1 (by omega)),k1,k2,k3,by rw [resf4]; exact k4,B1⟩
 case round =>
  clear k1 k2 k3 k4 B0 B1
  obtain ⟨m,z,hm,hz,rfl,hno,k1,k2,k3,k4,hB⟩:=hrel
  cases m with
  | zero =>
   obtain rfl : z = -1:=by simpa using hz
   clear hz
   have hR : Hid (aftV lo hi d = .tuple #[.agg (barr d),.bool false]):=by unfold Hid aftV; rw [aft_no fun i hi => Int.not_lt.2 (hno.out i (by omega) hi)]
   obtain ⟨p0,p1,p2,p3,pf,pz⟩:=k2.barr
   obtain ⟨q0,q1,q2,q3,qf,qz⟩:=k3.barr
   go_wp2_with fail
   refine bodyPost_ret (v:=.tuple #[.agg #[.int .i64 (d 0),.int .i64 (d 1),.int .i64 (d 2),.int .i64 (d 3)],.bool false]) (by simp [results,Try.results86,go_sem,p0,p1,p2,p3,pf,q0,q1,q2,q3,qf]) rfl ⟨by rw [hR.out,barr_def],?_⟩
   exact (((hB.setCell (by simp; omega) _).setCell (by simp; omega) _).setCell (by simp; omega) _).setCell (by simp; omega) _
  | succ k =>
   obtain rfl : z = (k : Int):=by omega
   clear hz
   have hk4 : k < 4:=by omega
   have hki : (k : Int) < 4:=by omega
   have h0k : (0 : Int) ≤ (k : Int):=by omega
   obtain ⟨a,ha⟩ : ∃ a,d k = a:=⟨_,rfl⟩
   obtain ⟨b,hb⟩ : ∃ b,hi k = b:=⟨_,rfl⟩
   obtain ⟨l,hl⟩ : ∃ l,lo k = l:=⟨_,rfl⟩
   have a6:=hd k hk4
   rw [ha] at a6
   have q0:=(k4.cell k).trans (barr_get' (z:=a) hk4 (by rw [← ha]; simp [resf]))
   have q1:=(k1.cell (k * 2 + 1)).trans (xarr_hi lo hi hk4)
   have q2:=(k1.cell (k * 2)).trans (xarr_lo lo hi hk4)
   rw [hb] at q1
   rw [hl] at q2
   have f4:=k4.free
   have z4:=k4.lt
   have hw1 : IntKind.i64.wrap (a + 1) = a + 1:=IntWalk.i64_in _ (by omega)
   have hw2 : IntKind.i64.wrap ((k : Int) - 1) = (k : Int) - 1:=IntWalk.i64_in _ (by omega)
   by_cases hab : a < b
   ·obtain ⟨f,hf1,hf2⟩:=aft_some (lo:=lo) (hi:=hi) (d:=d) hk4 (fun i h1 h2 => Int.not_lt.2 (hno.out i (by omega) h2)) (by rw [ha,hb]; exact hab)
    have hR : Hid (aftV lo hi d = .tuple #[.agg (barr (up1 (resf lo d (k + 1)) k (a + 1))),.bool true]):=by unfold Hid aftV; rw [hf1]; simp only [hf2,ha]
    clear hno hf1 hf2 ha hb hl
    obtain ⟨s0,s1,s2,s3,sf,sz⟩:=k3.barr
    go_wp2_with fail
    refine AnyG.startC (by kernel_rfl) ?_
    refine AnyG.takeP (i:=0) (v:=?_) rfl (by kernel_rfl) (fun _ _ _ h => h) rfl ?_ ?_
    rotate_left
    ·(intro w'; go_simp; try with_reducible rfl)
    try simp only [Act.put,Sp1,Sp2,Sp3,Sp4,Sp5,Sp6]
    refine AnyG.takeP (i:=1) (v:=?_) rfl (by kernel_rfl) (fun _ _ _ h => h) rfl ?_ ?_
    rotate_left
    ·(intro w'; go_simp; try with_reducible rfl)
    try simp only [Act.put,Sp1,Sp2,Sp3,Sp4,Sp5,Sp6]
    refine AnyG.takeP (i:=3) (v:=?_) rfl (by kernel_rfl) (fun _ _ _ h => h) rfl ?_ ?_
    rotate_left
    ·(intro w'; go_simp; try with_reducible rfl)
    try simp only [Act.put,Sp1,Sp2,Sp3,Sp4,Sp5,Sp6]
    refine AnyG.takeP (i:=4) (v:=?_) rfl (by kernel_rfl) (fun _ _ _ h => h) rfl ?_ ?_
    rotate_left
    ·(intro w'; go_simp; try with_reducible rfl)
    try simp only [Act.put,Sp1,Sp2,Sp3,Sp4,Sp5,Sp6]
    refine AnyG.takeP (i:=5) (v:=?_) rfl (by kernel_rfl) (fun _ _ _ h => h) rfl ?_ ?_
    rotate_left
    ·(intro w'; go_simp; try with_reducible rfl)
    try simp only [Act.put,Sp1,Sp2,Sp3,Sp4,Sp5,Sp6]
    refine AnyG.enter (fun w' : World => Below wr.heap.size wr w') (fun i => true) ?_
    have hS : (fun w' : World => Below wr.heap.size wr w') (World.drew _):=(Below.refl _ _).drew
    refine AnyG.takeC (i:=2) (v:=?_) rfl (by kernel_rfl) (fun _ _ _ h => h) rfl ?_ hS ?_
    rotate_left
    ·(intro w' hSw; (try dsimp only at hSw); have q0:=cellC hSw q0; have q1:=cellC hSw q1; go_simp; try with_reducible rfl)
    try simp only [Act.put,Sp1,Sp2,Sp3,Sp4,Sp5,Sp6]
    refine AnyG.takeC (i:=6) (v:=?_) rfl (by kernel_rfl) (fun _ _ _ h => h) rfl ?_ hS ?_
    rotate_left
    ·(intro w' hSw; (try dsimp only at hSw); have q0:=cellC hSw q0; have q1:=cellC hSw q1; go_simp; try with_reducible rfl)
    try simp only [Act.put,Sp1,Sp2,Sp3,Sp4,Sp5,Sp6]
    refine AnyG.takeC (i:=7) (v:=?_) rfl (by kernel_rfl) (fun _ _ _ h => h) rfl ?_ hS ?_
    rotate_left
    ·(intro w' hSw; (try dsimp only at hSw); go_simp; try with_reducible rfl)
    try simp only [Act.put,Sp1,Sp2,Sp3,Sp4,Sp5,Sp6]
    refine AnyG.done (by kernel_rfl) ?_ _
    go_simp
    have k4':=((barr_set (resf lo d (k + 1)) hk4 (a + 1)) ▸ k4.set_ k (.int .i64 (a + 1))).drew
    have k3':=(k3.far (p:=⟨w.heap.size + 1 + 1 + 1,k,none⟩) (by simp) (.int .i64 (a + 1))).drew
    have hB':=(hB.setCell (p:=⟨w.heap.size + 1 + 1 + 1,k,none⟩) (by simp; omega) (.int .i64 (a + 1))).drew
    obtain ⟨W3,hW3⟩ : ∃ W3,(wr.setCell ⟨w.heap.size + 1 + 1 + 1,k,none⟩ (.int .i64 (a + 1))).drew = W3:=⟨_,rfl⟩
    rw [hW3] at k4' k3' hB'
    have HW3:=Lib.hid hW3
    clear hW3 s0 s1 s2 s3 sf sz
    obtain ⟨t0,t1,t2,t3,tf,tz⟩:=k4'.barr
    obtain ⟨s0,s1,s2,s3,sf,sz⟩:=k3'.barr
    go_wp2_with ((with_reducible (show wpList _ _ _ (⟨some 26,_,_,_,_,_⟩ :: _) _ _)); rw [HW3.out])
    obtain ⟨F,hF⟩ : ∃ F,up1 (resf lo d (k + 1)) k (a + 1) = F:=⟨_,rfl⟩
    rw [hF] at t0 t1 t2 t3 hR ⊢
    refine bodyPost_ret (v:=.tuple #[.agg #[.int .i64 (F 0),.int .i64 (F 1),.int .i64 (F 2),.int .i64 (F 3)],.bool true]) (by simp [results,Try.results86,go_sem,t0,t1,t2,t3,tf,s0,s1,s2,s3,sf]) rfl ⟨by rw [hR.out,barr_def],?_⟩
    exact (((hB'.setCell (by simp; omega) _).setCell (by simp; omega) _).setCell (by simp; omega) _).setCell (by simp; omega) _
   ·have hno' : Hid (∀ j,k ≤ j → j < 4 → hi j ≤ d j):=Lib.hid fun j h1 h2 => by
     by_cases hjk : j = k
     ·subst hjk; rw [ha,hb]; exact Int.not_lt.1 hab
     ·exact hno.out j (by omega) h2
    have hst:=resf_step lo d hk4
    rw [hl] at hst
    clear hno ha hb hl
    have hab' : decide (a < b) = false:=decide_eq_false hab
    go_wp2_with fail
    refine AnyG.startC (by kernel_rfl) ?_
    refine AnyG.takeP (i:=0) (v:=?_) rfl (by kernel_rfl) (fun _ _ _ h => h) rfl ?_ ?_
    rotate_left
    ·(intro w'; go_simp; try with_reducible rfl)
    try simp only [Act.put,Sp1,Sp2,Sp3,Sp4,Sp5,Sp6]
    refine AnyG.takeP (i:=1) (v:=?_) rfl (by kernel_rfl) (fun _ _ _ h => h) rfl ?_ ?_
    rotate_left
    ·(intro w'; go_simp; try with_reducible rfl)
    try simp only [Act.put,Sp1,Sp2,Sp3,Sp4,Sp5,Sp6]
    refine AnyG.takeP (i:=3) (v:=?_) rfl (by kernel_rfl) (fun _ _ _ h => h) rfl ?_ ?_
    rotate_left
    ·(intro w'; go_simp; try with_reducible rfl)
    try simp only [Act.put,Sp1,Sp2,Sp3,Sp4,Sp5,Sp6]
    refine AnyG.takeP (i:=4) (v:=?_) rfl (by kernel_rfl) (fun _ _ _ h => h) rfl ?_ ?_
    rotate_left
    ·(intro w'; go_simp; try with_reducible rfl)
    try simp only [Act.put,Sp1,Sp2,Sp3,Sp4,Sp5,Sp6]
    refine AnyG.takeP (i:=5) (v:=?_) rfl (by kernel_rfl) (fun _ _ _ h => h) rfl ?_ ?_
    rotate_left
    ·(intro w'; go_simp; try with_reducible rfl)
    try simp only [Act.put,Sp1,Sp2,Sp3,Sp4,Sp5,Sp6]
    refine AnyG.enter (fun w' : World => Below wr.heap.size wr w') (fun i => true) ?_
    have hS : (fun w' : World => Below wr.heap.size wr w') (World.drew _):=(Below.refl _ _).drew
    refine AnyG.takeC (i:=2) (v:=?_) rfl (by kernel_rfl) (fun _ _ _ h => h) rfl ?_ hS ?_
    rotate_left
    ·(intro w' hSw; (try dsimp only at hSw); have q0:=cellC hSw q0; have q1:=cellC hSw q1; go_simp; try with_reducible rfl)
    try simp only [Act.put,Sp1,Sp2,Sp3,Sp4,Sp5,Sp6]
    refine AnyG.takeC (i:=6) (v:=?_) rfl (by kernel_rfl) (fun _ _ _ h => h) rfl ?_ hS ?_
    rotate_left
    ·(intro w' hSw; (try dsimp only at hSw); have q0:=cellC hSw q0; have q1:=cellC hSw q1; go_simp; try with_reducible rfl)
    try simp only [Act.put,Sp1,Sp2,Sp3,Sp4,Sp5,Sp6]
    refine AnyG.takeC (i:=7) (v:=?_) rfl (by kernel_rfl) (fun _ _ _ h => h) rfl ?_ hS ?_
    rotate_left
    ·(intro w' hSw; (try dsimp only at hSw); go_simp; try with_reducible rfl)
    try simp only [Act.put,Sp1,Sp2,Sp3,Sp4,Sp5,Sp6]
    refine AnyG.done (by kernel_rfl) ?_ _
    go_simp
    have k4':=((barr_set (resf lo d (k + 1)) hk4 l) ▸ k4.set_ k (.int .i64 l)).drew
    rw [hst] at k4'
    have k1':=(k1.far (p:=⟨w.heap.size + 1 + 1 + 1,k,none⟩) (by simp; omega) (.int .i64 l)).drew
    have k2':=(k2.far (p:=⟨w.heap.size + 1 + 1 + 1,k,none⟩) (by simp) (.int .i64 l)).drew
    have k3':=(k3.far (p:=⟨w.heap.size + 1 + 1 + 1,k,none⟩) (by simp) (.int .i64 l)).drew
    have hB':=(hB.setCell (p:=⟨w.heap.size + 1 + 1 + 1,k,none⟩) (by simp; omega) (.int .i64 l)).drew
    go_wp2_with fail
    go_roundw
    case rel => exact ⟨k,(k : Int) - 1,by omega,rfl,by simp [hw2],hno',k1',k2',k3',k4',hB'⟩
    case measure => simp [intOf]; try omega
end Go.Proofs.Ytmemcopfeabcgaa

/-! Boxes of blends: melt.box.blends; wholeBox. -/
namespace Go.Proofs.Ytmemcopfeabcgaa
open Go Go.RowKit
theorem xarr_z (f : Nat → Int) : xarr zer (cutf 0 f) = #[.int .i64 0,.int .i64 0,.int .i64 0,.int .i64 0,.int .i64 0,.int .i64 0,.int .i64 0,.int .i64 0]:=by rw [xarr_def]; rfl
theorem xarr_whole (f : Nat → Int) {k : Nat} (hk : k < 4) : (xarr zer (cutf k f)).setIfInBounds (k * 2 + 1) (.int .i64 (f k)) = xarr zer (cutf (k + 1) f):=by
 rw [xarr_sethi _ _ hk]
 refine xarr_congr (fun i _ => rfl) (fun i _ => ?_)
 unfold up1 cutf
 by_cases h : i = k
 ·subst h; simp
 ·rw [if_neg h]
  by_cases h2 : i < k
  ·rw [if_pos h2,if_pos (by omega)]
  ·rw [if_neg h2,if_neg (by omega)]
theorem xarr_mx {o : Od} {n : Nat} (h : o.bs.length = n) : xarr zer (cutf n o.mx) = xarr zer o.mx:=by
 refine xarr_congr (fun i _ => rfl) (fun i _ => ?_)
 unfold cutf
 by_cases h2 : i < n
 ·rw [if_pos h2]
 ·rw [if_neg h2]
  unfold Od.mx Od.bn
  rw [List.getD_eq_getElem?_getD,List.getElem?_eq_none (by omega)]
  rfl
set_option maxRecDepth 100000 in
set_option maxHeartbeats 2000000 in
theorem wholeBox_any (LA : Option Addr) (ln lc : Nat) (BA : Option Addr) (bn bc : Nat) (o : Od) (w : World) (hl : o.lm.length = ln) (hb' : o.bs.length = bn) (hA : OrdAt w w.heap.size LA BA o) (ho : o.Ok) :
  Calls Try.prog 57 #[.agg #[.slice LA ln lc,.int .i64 o.le,.int .i64 o.mo,.slice BA bn bc]] w fun e w' => e = .returned (.agg (xarr zer o.mx)) ∧ Below w.heap.size w w':=by
 have k1:=((Bx.new w 27 #[.slice LA ln lc,.int .i64 o.le,.int .i64 o.mo,.slice BA bn bc]).alloc (.cells (xarr zer (cutf 0 o.mx)) 91)).alloc (.cells (xarr zer (cutf 0 o.mx)) 91)
 have k2:=(Bx.at (w.alloc (.cells #[.slice LA ln lc,.int .i64 o.le,.int .i64 o.mo,.slice BA bn bc] 27)) 91 (xarr zer (cutf 0 o.mx)) (n:=w.heap.size + 1) (by simp)).alloc (.cells (xarr zer (cutf 0 o.mx)) 91)
 have k3:=Bx.at ((w.alloc (.cells #[.slice LA ln lc,.int .i64 o.le,.int .i64 o.mo,.slice BA bn bc] 27)).alloc (.cells (xarr zer (cutf 0 o.mx)) 91)) 91 (xarr zer (cutf 0 o.mx)) (n:=w.heap.size + 1 + 1) (by simp)
 have B0:=(((Below.refl w.heap.size w).alloc (Nat.le_refl _) (.cells #[.slice LA ln lc,.int .i64 o.le,.int .i64 o.mo,.slice BA bn bc] 27)).alloc (by simp) (.cells (xarr zer (cutf 0 o.mx)) 91)).alloc (by simp; omega) (.cells (xarr zer (cutf 0 o.mx)) 91)
 obtain ⟨W1,hW1⟩ : ∃ W1,((w.alloc (.cells #[.slice LA ln lc,.int .i64 o.le,.int .i64 o.mo,.slice BA bn bc] 27)).alloc (.cells (xarr zer (cutf 0 o.mx)) 91)).alloc (.cells (xarr zer (cutf 0 o.mx)) 91) = W1:=⟨_,rfl⟩
 rw [hW1] at k1 k2 k3 B0
 rw [xarr_z] at hW1
 have HW:=Lib.hid hW1
 clear hW1
 have hbn4 : bn ≤ 4:=by rw [← hb']; exact ho.b2
 have HB:=Lib.hid hb'
 have HO:=Lib.hid ho
 clear hb' ho hl
 obtain ⟨c0,c1,c2,c3,cf,cz⟩:=k1.four
 go_enter Try.func57,Try.ntmps57
 go_wp2_with ((with_reducible (show wpList _ _ _ (⟨some 6,_,_,_,_,_⟩ :: _) _ _)); rw [HW.out])
 clear c0 c1 c2 c3 cf cz k1
 go_loopw [9] (fun i wr => ∃ k : Nat,k ≤ bn ∧ i = .int .i64 k ∧ Bx wr (w.heap.size + 1) 91 (xarr zer (cutf 0 o.mx)) ∧ Bx wr (w.heap.size + 1 + 1) 91 (xarr zer (cutf k o.mx)) ∧ Below w.heap.size w wr) (fun i _ => bn - (intOf i).toNat)
 case atStart => exact ⟨0,by omega,rfl,k2,k3,B0⟩
 case round =>
  clear k2 k3 B0
  obtain ⟨k,hk,rfl,k2,k3,hB⟩:=hrel
  by_cases hkn : k < bn
  ·have hke : k < o.bs.length:=by rw [HB.out]; exact hkn
   have hk4 : k < 4:=by omega
   have hki : (k : Int) < 4:=by omega
   obtain ⟨bd,G,gc,rfl,_,q0,q1,q2,q3,_⟩:=(hA.bs.below hB).at_ hke
   have e:=Od.bn_eq hke
   rw [e] at q0 q1 q2 q3
   have hst:=xarr_whole o.mx hk4
   have hmx : o.mx k = (o.bn k).g:=rfl
   rw [hmx] at hst
   have f3:=k3.free
   have z3:=k3.lt
   have p3 : ∃ v,wr.cell? ⟨w.heap.size + 1 + 1,k * 2 + 1,none⟩ = some v:=⟨_,(k3.cell (k * 2 + 1)).trans (xarr_hi _ _ hk4)⟩
   obtain ⟨v3,p3⟩:=p3
   clear e hmx
   generalize (o.bn k).gr.length = gn at *
   generalize (o.bn k).w = bw at *
   generalize (o.bn k).c = bc' at *
   generalize (o.bn k).g = bg at *
   have HST:=Lib.hid hst
   clear hst
   go_wp2_with fail
   go_roundw
   case rel => exact ⟨k + 1,by omega,by go_num,(k2.far (p:=⟨w.heap.size + 1 + 1,k * 2 + 1,none⟩) (by simp) _).alloc _,(by have h:=k3.set_ (k * 2 + 1) (.int .i64 bg); rw [HST.out] at h; exact h.alloc _),(hB.setCell (by simp; omega) _).alloc (hB.setCell (by simp; omega) _).size _⟩
   case measure => simp [intOf]; omega
  ·obtain rfl : k = bn:=by omega
   rw [xarr_mx HB.out] at k3
   obtain ⟨a0,a1,a2,a3,a4,a5,a6,a7,af,az⟩:=k2.xarr
   obtain ⟨b0,b1,b2,b3,b4,b5,b6,b7,bf,bz⟩:=k3.xarr
   go_wp2_with fail
   refine bodyPost_ret (v:=.agg #[.int .i64 (zer 0),.int .i64 (o.mx 0),.int .i64 (zer 1),.int .i64 (o.mx 1),.int .i64 (zer 2),.int .i64 (o.mx 2),.int .i64 (zer 3),.int .i64 (o.mx 3)]) (by simp [results,Try.results57,go_sem,a0,a1,a2,a3,a4,a5,a6,a7,af,b0,b1,b2,b3,b4,b5,b6,b7,bf]) rfl ⟨by rw [xarr_def],?_⟩
   exact (((((((hB.setCell (by simp) _).setCell (by simp) _).setCell (by simp) _).setCell (by simp) _).setCell (by simp) _).setCell (by simp) _).setCell (by simp) _).setCell (by simp) _
set_option maxRecDepth 100000 in
theorem blends_any (lo hi : Nat → Int) (w : World) :
  Calls Try.prog 58 #[.agg (xarr lo hi)] w fun e w' => (e = .returned (.func (.func 84) #[] #[.pointer (some ⟨w.heap.size,0,none⟩)]) ∧ Bx w' w.heap.size 91 (xarr lo hi)) ∧ Below w.heap.size w w':=by
 have k1:=Bx.new w 91 (xarr lo hi)
 have B0:=(Below.refl w.heap.size w).alloc (Nat.le_refl _) (.cells (xarr lo hi) 91)
 go_enter Try.func58,Try.ntmps58
 go_wp2_with fail
 go_ret
 exact ⟨⟨rfl,k1⟩,B0⟩
end Go.Proofs.Ytmemcopfeabcgaa
