/- Reasons of a proof: melt.claim.isBroken, placesOf. -/
import Derived.Test.YtmemcopfeabcgaaRe
set_option linter.unusedSimpArgs false
set_option linter.unusedVariables false
namespace Go.Proofs.Ytmemcopfeabcgaa
open Go Go.RowKit
set_option maxRecDepth 100000 in
set_option maxHeartbeats 1000000 in
theorem isBroken_any (LA : Option Addr) (ln lc : Nat) (BA : Option Addr) (bn bc : Nat) (o : Od) (p : Int) (lo hi : Nat → Int) (j : Nat) (w : World) (hl : o.lm.length = ln) (hb' : o.bs.length = bn) (hA : OrdAt w w.heap.size LA BA o) (ho : o.Ok) (hbx : BoxOk lo hi) (hj : j < ln) :
  Calls Try.prog 106 #[.agg #[.slice LA ln lc,.int .i64 o.le,.int .i64 o.mo,.slice BA bn bc,.int .i64 p],.agg (xarr lo hi),.int .i64 j] w fun e w' => e = .returned (.bool (isB o lo hi j)) ∧ Below w.heap.size w w':=by
 have K1:=(Bx.new w 100 #[.slice LA ln lc,.int .i64 o.le,.int .i64 o.mo,.slice BA bn bc,.int .i64 p]).alloc (.cells (xarr lo hi) 91)
 have K2:=Bx.at (w.alloc (.cells #[.slice LA ln lc,.int .i64 o.le,.int .i64 o.mo,.slice BA bn bc,.int .i64 p] 100)) 91 (xarr lo hi) (n:=w.heap.size + 1) (by simp)
 have B0:=((Below.refl w.heap.size w).alloc (Nat.le_refl _) (.cells #[.slice LA ln lc,.int .i64 o.le,.int .i64 o.mo,.slice BA bn bc,.int .i64 p] 100)).alloc (by simp) (.cells (xarr lo hi) 91)
 have HRES : Hid (isB o lo hi j = decide (0 < brk o lo hi j bn)):=Lib.hid (by unfold isB; rw [hb'])
 have hbn4 : bn ≤ 4:=by rw [← hb']; exact ho.b2
 have hln3 : ln ≤ 3:=by rw [← hl]; exact ho.lm
 have HB:=Lib.hid hb'
 have HL:=Lib.hid hl
 have HO:=Lib.hid ho
 have HX:=Lib.hid hbx
 clear hb' hl ho hbx
 obtain ⟨c0,c1,c2,c3,c4,cf,cz⟩:=K1.five
 go_enter Try.func106,Try.ntmps106
 go_wp2_with fail
 go_loopw [15,7] (fun i v wr => ∃ (k : Nat) (x : Int),k ≤ bn ∧ i = .int .i64 k ∧ v = .int .i64 x ∧ Hid (x = brk o lo hi j k) ∧ Bx wr w.heap.size 100 #[.slice LA ln lc,.int .i64 o.le,.int .i64 o.mo,.slice BA bn bc,.int .i64 p] ∧ Bx wr (w.heap.size + 1) 91 (xarr lo hi) ∧ Below w.heap.size w wr) (fun i _ _ => bn - (intOf i).toNat)
 case atStart => exact ⟨0,0,by omega,rfl,rfl,Lib.hid rfl,K1,K2,B0⟩
 case round =>
  clear K1 K2 B0 c0 c1 c2 c3 c4 cf cz
  obtain ⟨k,x,hk,rfl,rfl,hx,k1,k2,hB⟩:=hrel
  by_cases hkn : k < bn
  ·have hke : k < o.bs.length:=by rw [HB.out]; exact hkn
   have hk4 : k < 4:=by omega
   have hk4i : (k : Int) < 4:=by omega
   have hji : (j : Int) < ln:=by omega
   obtain ⟨bd,G,gc,rfl,hbd,q0,q1,q2,q3,hS⟩:=(hA.bs.below hB).at_ hke
   have e:=Od.bn_eq hke
   rw [e] at q0 q1 q2 q3 hS
   have hok:=HO.out.bn hke
   have hgl : (o.bn k).gr.length = ln:=hok.len.trans HL.out
   obtain ⟨gd,rfl,hgd,g0,g1⟩:=gnr_at hS (k:=j) (by omega)
   rw [Bn.g_eq (by omega)] at g0 g1
   dsimp only at g0 g1
   obtain ⟨ld,rfl,hld,l0⟩:=inr_at (hA.lm.below hB) (k:=j) (by rw [HL.out]; exact hj)
   rw [Od.li_eq (by rw [HL.out]; exact hj)] at l0
   have hgj:=hok.gj j
   have hlj:=HO.out.li (j:=j)
   have b1:=ovr_bd HO.out hke j
   have b2:=ovr6_bd HO.out HX.out.six hke j
   have b3:=ovr6_bd HO.out HX.out.six2 hke j
   have x1:=brk_bd HO.out HX.out (j:=j) (k:=k) (by omega)
   rw [← hx.out] at x1
   obtain ⟨a,ha⟩ : ∃ a,lo k = a:=⟨_,rfl⟩
   obtain ⟨b,hb⟩ : ∃ b,hi k = b:=⟨_,rfl⟩
   have x0:=(k2.cell (k * 2)).trans (xarr_lo lo hi hk4)
   have x2:=(k2.cell (k * 2 + 1)).trans (xarr_hi lo hi hk4)
   have HXX : Hid (x + min (lo k * ovr o k j) (hi k * ovr o k j) = brk o lo hi j (k + 1)):=by unfold Hid; rw [hx.out]; rfl
   rw [ha] at x0 b2 HXX
   rw [hb] at x2 b3 HXX
   unfold ovr at b1 b2 b3 HXX
   clear hx e hok hS ha hb
   rw [hgl] at q0
   clear hgl
   generalize (o.bn k).w = bw at *
   generalize (o.bn k).c = bc' at *
   generalize (o.bn k).g = bg at *
   generalize (o.bn k).g1 j = v1 at *
   generalize (o.bn k).g2 j = v2 at *
   generalize o.li j = lj at *
   have m3 : IntKind.i64.wrap (v2 - lj) = v2 - lj:=IntWalk.i64_in _ (by omega)
   obtain ⟨ov,hov⟩ : ∃ ov,bw * (v2 - lj) = ov:=⟨_,rfl⟩
   rw [hov] at b1 b2 b3 HXX
   have m5 : IntKind.i64.wrap (bw * (v2 - lj)) = ov:=by rw [hov]; exact IntWalk.i64_in _ (by omega)
   have m6 : IntKind.i64.wrap (a * ov) = a * ov:=IntWalk.i64_in _ (by omega)
   have m7 : IntKind.i64.wrap (b * ov) = b * ov:=IntWalk.i64_in _ (by omega)
   have m8 : IntKind.i64.wrap (x + min (a * ov) (b * ov)) = x + min (a * ov) (b * ov):=IntWalk.i64_in _ (by omega)
   clear hov
   go_wp2_with fail
   obtain ⟨W1,hW1⟩ : ∃ W1,wr.alloc (.cells #[.slice (some gd) ln gc,.int .i64 bw,.int .i64 bc',.int .i64 bg] 42) = W1:=⟨_,rfl⟩
   have kb:=Bx.new wr 42 #[.slice (some gd) ln gc,.int .i64 bw,.int .i64 bc',.int .i64 bg]
   replace k1:=k1.alloc (.cells #[.slice (some gd) ln gc,.int .i64 bw,.int .i64 bc',.int .i64 bg] 42)
   replace k2:=k2.alloc (.cells #[.slice (some gd) ln gc,.int .i64 bw,.int .i64 bc',.int .i64 bg] 42)
   have HB1:=hB.alloc hB.size (.cells #[.slice (some gd) ln gc,.int .i64 bw,.int .i64 bc',.int .i64 bg] 42)
   replace x0:=cellA (o:=.cells #[.slice (some gd) ln gc,.int .i64 bw,.int .i64 bc',.int .i64 bg] 42) x0
   replace x2:=cellA (o:=.cells #[.slice (some gd) ln gc,.int .i64 bw,.int .i64 bc',.int .i64 bg] 42) x2
   replace g1:=cellA (o:=.cells #[.slice (some gd) ln gc,.int .i64 bw,.int .i64 bc',.int .i64 bg] 42) g1
   replace l0:=cellA (o:=.cells #[.slice (some gd) ln gc,.int .i64 bw,.int .i64 bc',.int .i64 bg] 42) l0
   rw [hW1] at kb k1 k2 HB1 x0 x2 g1 l0 ⊢
   clear q0 q1 q2 q3 g0
   obtain ⟨q0,q1,q2,q3,_,_⟩:=kb.four
   obtain ⟨c0,c1,c2,c3,c4,_,_⟩:=k1.five
   refine AnyG.startC (by kernel_rfl) ?_
   refine AnyG.takeP (i:=0) (v:=?_) rfl (by kernel_rfl) (fun _ _ _ h => h) rfl ?_ ?_
   rotate_left
   ·(intro w'; go_simp; try with_reducible rfl)
   try simp only [Act.put,Sp1,Sp2,Sp3,Sp4,Sp5,Sp6]
   refine AnyG.takeP (i:=2) (v:=?_) rfl (by kernel_rfl) (fun _ _ _ h => h) rfl ?_ ?_
   rotate_left
   ·(intro w'; go_simp; try with_reducible rfl)
   try simp only [Act.put,Sp1,Sp2,Sp3,Sp4,Sp5,Sp6]
   refine AnyG.takeP (i:=4) (v:=?_) rfl (by kernel_rfl) (fun _ _ _ h => h) rfl ?_ ?_
   rotate_left
   ·(intro w'; go_simp; try with_reducible rfl)
   try simp only [Act.put,Sp1,Sp2,Sp3,Sp4,Sp5,Sp6]
   refine AnyG.takeP (i:=8) (v:=?_) rfl (by kernel_rfl) (fun _ _ _ h => h) rfl ?_ ?_
   rotate_left
   ·(intro w'; go_simp; try with_reducible rfl)
   try simp only [Act.put,Sp1,Sp2,Sp3,Sp4,Sp5,Sp6]
   refine AnyG.takeP (i:=9) (v:=?_) rfl (by kernel_rfl) (fun _ _ _ h => h) rfl ?_ ?_
   rotate_left
   ·(intro w'; go_simp; try with_reducible rfl)
   try simp only [Act.put,Sp1,Sp2,Sp3,Sp4,Sp5,Sp6]
   refine AnyG.takeP (i:=11) (v:=?_) rfl (by kernel_rfl) (fun _ _ _ h => h) rfl ?_ ?_
   rotate_left
   ·(intro w'; go_simp; try with_reducible rfl)
   try simp only [Act.put,Sp1,Sp2,Sp3,Sp4,Sp5,Sp6]
   refine AnyG.enter (fun w' : World => Below W1.heap.size W1 w') (fun i => true) ?_
   have hS : (fun w' : World => Below W1.heap.size W1 w') (World.drew _):=(Below.refl _ _).drew
   refine AnyG.takeC (i:=1) (v:=?_) rfl (by kernel_rfl) (fun _ _ _ h => h) rfl ?_ hS ?_
   rotate_left
   ·(intro w' hSw; (try dsimp only at hSw); have q0:=cellC hSw q0; have q1:=cellC hSw q1; have q2:=cellC hSw q2; have q3:=cellC hSw q3; have c0:=cellC hSw c0; have c1:=cellC hSw c1; have c2:=cellC hSw c2; have c3:=cellC hSw c3; have c4:=cellC hSw c4; have g1:=cellC hSw g1; have l0:=cellC hSw l0; go_simp; try with_reducible rfl)
   try simp only [Act.put,Sp1,Sp2,Sp3,Sp4,Sp5,Sp6]
   refine AnyG.takeC (i:=3) (v:=?_) rfl (by kernel_rfl) (fun _ _ _ h => h) rfl ?_ hS ?_
   rotate_left
   ·(intro w' hSw; (try dsimp only at hSw); have q0:=cellC hSw q0; have q1:=cellC hSw q1; have q2:=cellC hSw q2; have q3:=cellC hSw q3; have c0:=cellC hSw c0; have c1:=cellC hSw c1; have c2:=cellC hSw c2; have c3:=cellC hSw c3; have c4:=cellC hSw c4; have g1:=cellC hSw g1; have l0:=cellC hSw l0; go_simp; try with_reducible rfl)
   try simp only [Act.put,Sp1,Sp2,Sp3,Sp4,Sp5,Sp6]
   refine AnyG.takeC (i:=5) (v:=?_) rfl (by kernel_rfl) (fun _ _ _ h => h) rfl ?_ hS ?_
   rotate_left
   ·(intro w' hSw; (try dsimp only at hSw); go_simp; try with_reducible rfl)
   try simp only [Act.put,Sp1,Sp2,Sp3,Sp4,Sp5,Sp6]
   refine AnyG.takeC (i:=6) (v:=?_) rfl (by kernel_rfl) (fun _ _ _ h => h) rfl ?_ hS ?_
   rotate_left
   ·(intro w' hSw; (try dsimp only at hSw); go_simp; try with_reducible rfl)
   try simp only [Act.put,Sp1,Sp2,Sp3,Sp4,Sp5,Sp6]
   refine AnyG.takeC (i:=7) (v:=?_) rfl (by kernel_rfl) (fun _ _ _ h => h) rfl ?_ hS ?_
   rotate_left
   ·(intro w' hSw; (try dsimp only at hSw); have q0:=cellC hSw q0; have q1:=cellC hSw q1; have q2:=cellC hSw q2; have q3:=cellC hSw q3; have c0:=cellC hSw c0; have c1:=cellC hSw c1; have c2:=cellC hSw c2; have c3:=cellC hSw c3; have c4:=cellC hSw c4; have g1:=cellC hSw g1; have l0:=cellC hSw l0; go_simp; try with_reducible rfl)
   try simp only [Act.put,Sp1,Sp2,Sp3,Sp4,Sp5,Sp6]
   refine AnyG.takeC (i:=10) (v:=?_) rfl (by kernel_rfl) (fun _ _ _ h => h) rfl ?_ hS ?_
   rotate_left
   ·(intro w' hSw; (try dsimp only at hSw); have q0:=cellC hSw q0; have q1:=cellC hSw q1; have q2:=cellC hSw q2; have q3:=cellC hSw q3; have c0:=cellC hSw c0; have c1:=cellC hSw c1; have c2:=cellC hSw c2; have c3:=cellC hSw c3; have c4:=cellC hSw c4; have g1:=cellC hSw g1; have l0:=cellC hSw l0; go_simp; try with_reducible rfl)
   try simp only [Act.put,Sp1,Sp2,Sp3,Sp4,Sp5,Sp6]
   refine AnyG.takeC (i:=12) (v:=?_) rfl (by kernel_rfl) (fun _ _ _ h => h) rfl ?_ hS ?_
   rotate_left
   ·(intro w' hSw; (try dsimp only at hSw); go_simp; try with_reducible rfl)
   try simp only [Act.put,Sp1,Sp2,Sp3,Sp4,Sp5,Sp6]
   refine AnyG.takeC (i:=13) (v:=?_) rfl (by kernel_rfl) (fun _ _ _ h => h) rfl ?_ hS ?_
   rotate_left
   ·(intro w' hSw; (try dsimp only at hSw); have q0:=cellC hSw q0; have q1:=cellC hSw q1; have q2:=cellC hSw q2; have q3:=cellC hSw q3; have c0:=cellC hSw c0; have c1:=cellC hSw c1; have c2:=cellC hSw c2; have c3:=cellC hSw c3; have c4:=cellC hSw c4; have g1:=cellC hSw g1; have l0:=cellC hSw l0; go_simp; try with_reducible rfl)
   try simp only [Act.put,Sp1,Sp2,Sp3,Sp4,Sp5,Sp6]
   refine AnyG.takeC (i:=14) (v:=?_) rfl (by kernel_rfl) (fun _ _ _ h => h) rfl ?_ hS ?_
   rotate_left
   ·(intro w' hSw; (try dsimp only at hSw); go_simp; try with_reducible rfl)
   try simp only [Act.put,Sp1,Sp2,Sp3,Sp4,Sp5,Sp6]
   refine AnyG.takeC (i:=15) (v:=?_) rfl (by kernel_rfl) (fun _ _ _ h => h) rfl ?_ hS ?_
   rotate_left
   ·(intro w' hSw; (try dsimp only at hSw); go_simp; try with_reducible rfl)
   try simp only [Act.put,Sp1,Sp2,Sp3,Sp4,Sp5,Sp6]
   refine AnyG.takeC (i:=16) (v:=?_) rfl (by kernel_rfl) (fun _ _ _ h => h) rfl ?_ hS ?_
   rotate_left
   ·(intro w' hSw; (try dsimp only at hSw); go_simp; try with_reducible rfl)
   try simp only [Act.put,Sp1,Sp2,Sp3,Sp4,Sp5,Sp6]
   refine AnyG.done (by kernel_rfl) ?_ _
   go_simp
   go_wp2_with fail
   have HD : Below W1.heap.size W1 W1.drew:=(Below.refl _ _).drew
   replace x0:=cellC HD x0
   replace x2:=cellC HD x2
   have x1':=x1
   clear q0 q1 q2 q3 c0 c1 c2 c3 c4 hS g1 l0
   replace k1:=k1.drew
   replace k2:=k2.drew
   replace HB1:=HB1.drew
   obtain ⟨W2,hW2⟩ : ∃ W2,W1.drew = W2:=⟨_,rfl⟩
   rw [hW2] at k1 k2 HB1 x0 x2 ⊢
   clear hW1 hW2 HD kb
   refine AnyG.startC (by kernel_rfl) ?_
   refine AnyG.takeP (i:=0) (v:=?_) rfl (by kernel_rfl) (fun _ _ _ h => h) rfl ?_ ?_
   rotate_left
   ·(intro w'; go_simp; try with_reducible rfl)
   try simp only [Act.put,Sp1,Sp2,Sp3,Sp4,Sp5,Sp6]
   refine AnyG.takeP (i:=1) (v:=?_) rfl (by kernel_rfl) (fun _ _ _ h => h) rfl ?_ ?_
   rotate_left
   ·(intro w'; go_simp; try with_reducible rfl)
   try simp only [Act.put,Sp1,Sp2,Sp3,Sp4,Sp5,Sp6]
   refine AnyG.takeP (i:=2) (v:=?_) rfl (by kernel_rfl) (fun _ _ _ h => h) rfl ?_ ?_
   rotate_left
   ·(intro w'; go_simp; try with_reducible rfl)
   try simp only [Act.put,Sp1,Sp2,Sp3,Sp4,Sp5,Sp6]
   refine AnyG.takeP (i:=3) (v:=?_) rfl (by kernel_rfl) (fun _ _ _ h => h) rfl ?_ ?_
   rotate_left
   ·(intro w'; go_simp; try with_reducible rfl)
   try simp only [Act.put,Sp1,Sp2,Sp3,Sp4,Sp5,Sp6]
   refine AnyG.takeP (i:=5) (v:=?_) rfl (by kernel_rfl) (fun _ _ _ h => h) rfl ?_ ?_
   rotate_left
   ·(intro w'; go_simp; try with_reducible rfl)
   try simp only [Act.put,Sp1,Sp2,Sp3,Sp4,Sp5,Sp6]
   refine AnyG.takeP (i:=7) (v:=?_) rfl (by kernel_rfl) (fun _ _ _ h => h) rfl ?_ ?_
   rotate_left
   ·(intro w'; go_simp; try with_reducible rfl)
   try simp only [Act.put,Sp1,Sp2,Sp3,Sp4,Sp5,Sp6]
   refine AnyG.takeP (i:=8) (v:=?_) rfl (by kernel_rfl) (fun _ _ _ h => h) rfl ?_ ?_
   rotate_left
   ·(intro w'; go_simp; try with_reducible rfl)
   try simp only [Act.put,Sp1,Sp2,Sp3,Sp4,Sp5,Sp6]
   refine AnyG.takeP (i:=9) (v:=?_) rfl (by kernel_rfl) (fun _ _ _ h => h) rfl ?_ ?_
   rotate_left
   ·(intro w'; go_simp; try with_reducible rfl)
   try simp only [Act.put,Sp1,Sp2,Sp3,Sp4,Sp5,Sp6]
   refine AnyG.takeP (i:=11) (v:=?_) rfl (by kernel_rfl) (fun _ _ _ h => h) rfl ?_ ?_
   rotate_left
   ·(intro w'; go_simp; try with_reducible rfl)
   try simp only [Act.put,Sp1,Sp2,Sp3,Sp4,Sp5,Sp6]
   refine AnyG.enter (fun w' : World => Below W2.heap.size W2 w') (fun i => true) ?_
   have hS : (fun w' : World => Below W2.heap.size W2 w') (World.drew _):=(Below.refl _ _).drew
   refine AnyG.takeC (i:=4) (v:=?_) rfl (by kernel_rfl) (fun _ _ _ h => h) rfl ?_ hS ?_
   rotate_left
   ·(intro w' hSw; (try dsimp only at hSw); have x0:=cellC hSw x0; have x2:=cellC hSw x2; go_simp; try with_reducible rfl)
   try simp only [Act.put,Sp1,Sp2,Sp3,Sp4,Sp5,Sp6]
   refine AnyG.takeC (i:=6) (v:=?_) rfl (by kernel_rfl) (fun _ _ _ h => h) rfl ?_ hS ?_
   rotate_left
   ·(intro w' hSw; (try dsimp only at hSw); go_simp; try with_reducible rfl)
   try simp only [Act.put,Sp1,Sp2,Sp3,Sp4,Sp5,Sp6]
   refine AnyG.takeC (i:=10) (v:=?_) rfl (by kernel_rfl) (fun _ _ _ h => h) rfl ?_ hS ?_
   rotate_left
   ·(intro w' hSw; (try dsimp only at hSw); have x0:=cellC hSw x0; have x2:=cellC hSw x2; go_simp; try with_reducible rfl)
   try simp only [Act.put,Sp1,Sp2,Sp3,Sp4,Sp5,Sp6]
   refine AnyG.takeC (i:=12) (v:=?_) rfl (by kernel_rfl) (fun _ _ _ h => h) rfl ?_ hS ?_
   rotate_left
   ·(intro w' hSw; (try dsimp only at hSw); go_simp; try with_reducible rfl)
   try simp only [Act.put,Sp1,Sp2,Sp3,Sp4,Sp5,Sp6]
   refine AnyG.takeC (i:=13) (v:=?_) rfl (by kernel_rfl) (fun _ _ _ h => h) rfl ?_ hS ?_
   rotate_left
   ·(intro w' hSw; (try dsimp only at hSw); go_simp; try with_reducible rfl)
   try simp only [Act.put,Sp1,Sp2,Sp3,Sp4,Sp5,Sp6]
   refine AnyG.takeC (i:=14) (v:=?_) rfl (by kernel_rfl) (fun _ _ _ h => h) rfl ?_ hS ?_
   rotate_left
   ·(intro w' hSw; (try dsimp only at hSw); go_simp; try with_reducible rfl)
   try simp only [Act.put,Sp1,Sp2,Sp3,Sp4,Sp5,Sp6]
   refine AnyG.takeC (i:=15) (v:=?_) rfl (by kernel_rfl) (fun _ _ _ h => h) rfl ?_ hS ?_
   rotate_left
   ·(intro w' hSw; (try dsimp only at hSw); go_simp; try with_reducible rfl)
   try simp only [Act.put,Sp1,Sp2,Sp3,Sp4,Sp5,Sp6]
   refine AnyG.done (by kernel_rfl) ?_ _
   go_simp
   go_wp2_with fail
   go_roundw
   case rel => exact ⟨k + 1,x + min (a * ov) (b * ov),by omega,by go_num,by rw [show (if b * ov < a * ov then b * ov else a * ov) = min (a * ov) (b * ov) by split <;> omega,m8],HXX,k1.drew,k2.drew,HB1.drew⟩
   case measure => simp [intOf]; omega
  ·obtain rfl : k = bn:=by omega
   have hxo:=hx.out
   go_wp2_with fail
   go_ret
   exact ⟨ret_bool (by rw [HRES.out]; try rw [hxo]),hB⟩
theorem placesOf_any (LA : Option Addr) (ln lc : Nat) (BA : Option Addr) (bn bc : Nat) (o : Od) (p rs : Int) (w : World) :
  Calls Try.prog 102 #[.agg #[.slice LA ln lc,.int .i64 o.le,.int .i64 o.mo,.slice BA bn bc,.int .i64 p],.int .i64 rs] w fun e w' => e = .returned (.int .i64 (if rs = 4 then (ln : Int) else 1)) ∧ Below w.heap.size w w':=by
 have k1:=Bx.new w 100 #[.slice LA ln lc,.int .i64 o.le,.int .i64 o.mo,.slice BA bn bc,.int .i64 p]
 have B0:=(Below.refl w.heap.size w).alloc (Nat.le_refl _) (.cells #[.slice LA ln lc,.int .i64 o.le,.int .i64 o.mo,.slice BA bn bc,.int .i64 p] 100)
 obtain ⟨c0,c1,c2,c3,c4,cf,cz⟩:=k1.five
 by_cases h : rs = 4
 ·subst h
  go_enter Try.func102,Try.ntmps102
  go_wp2_with fail
  go_ret
  exact ⟨rfl,B0⟩
 ·have h' : (rs == 4) = false:=by rw [beq_eq_false_iff_ne]; exact h
  go_enter Try.func102,Try.ntmps102
  go_wp2_with fail
  go_ret
  exact ⟨ret_int (by first | rfl | rw [if_neg h]),B0⟩
end Go.Proofs.Ytmemcopfeabcgaa
