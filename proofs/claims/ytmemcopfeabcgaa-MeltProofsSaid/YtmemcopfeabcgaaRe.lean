/- Reasons of a proof: melt.claim.isLight, isHeavy, isBroken, isDear, placesOf. -/
import Derived.Test.YtmemcopfeabcgaaLxM
set_option linter.unusedSimpArgs false
set_option linter.unusedVariables false
namespace Go.Proofs.Ytmemcopfeabcgaa
open Go Go.RowKit
set_option maxRecDepth 100000 in
set_option maxHeartbeats 1000000 in
theorem isLight_any (LA : Option Addr) (ln lc : Nat) (BA : Option Addr) (bn bc : Nat) (o : Od) (p : Int) (lo hi : Nat → Int) (j : Int) (w : World) (hl : o.lm.length = ln) (hb' : o.bs.length = bn) (hA : OrdAt w w.heap.size LA BA o) (ho : o.Ok) (hbx : BoxOk lo hi) :
  Calls Try.prog 104 #[.agg #[.slice LA ln lc,.int .i64 o.le,.int .i64 o.mo,.slice BA bn bc,.int .i64 p],.agg (xarr lo hi),.int .i64 j] w fun e w' => e = .returned (.bool (isL o hi)) ∧ Below w.heap.size w w':=by
 have k1:=(Bx.new w 100 #[.slice LA ln lc,.int .i64 o.le,.int .i64 o.mo,.slice BA bn bc,.int .i64 p]).alloc (.cells (xarr lo hi) 91)
 have k2:=Bx.at (w.alloc (.cells #[.slice LA ln lc,.int .i64 o.le,.int .i64 o.mo,.slice BA bn bc,.int .i64 p] 100)) 91 (xarr lo hi) (n:=w.heap.size + 1) (by simp)
 have B0:=((Below.refl w.heap.size w).alloc (Nat.le_refl _) (.cells #[.slice LA ln lc,.int .i64 o.le,.int .i64 o.mo,.slice BA bn bc,.int .i64 p] 100)).alloc (by simp) (.cells (xarr lo hi) 91)
 have HRES : Hid ((isL o hi) = decide (kil o hi bn < o.le)):=Lib.hid (by unfold isL; rw [hb'])
 have HB:=Lib.hid hb'
 have HL:=Lib.hid hl
 have HO:=Lib.hid ho
 have HSX:=Lib.hid hbx.six2
 obtain ⟨K,hK⟩ : ∃ K,kil o hi bn = K:=⟨_,rfl⟩
 obtain ⟨C,hC⟩ : ∃ C,cst o hi bn = C:=⟨_,rfl⟩
 rw [hK] at HRES
 have HK:=Lib.hid hK
 have HC:=Lib.hid hC
 clear hb' hl ho hbx hK hC
 obtain ⟨c0,c1,c2,c3,c4,cf,cz⟩:=k1.five
 obtain ⟨p0,p1,p2,p3,p4,p5,p6,p7,pf,pz⟩:=k2.xarr
 go_enter Try.func104,Try.ntmps104
 go_wp2_with fail
 obtain ⟨w1,hw1⟩ : ∃ w1,(w.alloc (.cells #[.slice LA ln lc,.int .i64 o.le,.int .i64 o.mo,.slice BA bn bc,.int .i64 p] 100)).alloc (.cells (xarr lo hi) 91) = w1:=⟨_,rfl⟩
 rw [hw1] at k1 k2 B0 c0 c1 c2 c3 c4 cf cz p0 p1 p2 p3 p4 p5 p6 p7 pf pz ⊢
 clear hw1
 refine AnyG.startC (by kernel_rfl) ?_
 refine AnyG.takeP (i:=0) (v:=?_) rfl (by kernel_rfl) (fun _ _ _ h => h) rfl ?_ ?_
 rotate_left
 ·(intro w'; go_simp; try with_reducible rfl)
 try simp only [Act.put,Sp1,Sp2,Sp3,Sp4,Sp5,Sp6]
 refine AnyG.enter (fun w' : World => Below w1.heap.size w1 w') (fun i => true) ?_
 have hS : (fun w' : World => Below w1.heap.size w1 w') (World.drew _):=(Below.refl _ _).drew
 refine AnyG.takeC (i:=1) (v:=?_) rfl (by kernel_rfl) (fun _ _ _ h => h) rfl ?_ hS ?_
 rotate_left
 ·(intro w' hSw; (try dsimp only at hSw); have c0:=cellC hSw c0; have c1:=cellC hSw c1; have c2:=cellC hSw c2; have c3:=cellC hSw c3; have c4:=cellC hSw c4; go_simp; try with_reducible rfl)
 try simp only [Act.put,Sp1,Sp2,Sp3,Sp4,Sp5,Sp6]
 refine AnyG.takeC (i:=2) (v:=?_) rfl (by kernel_rfl) (fun _ _ _ h => h) rfl ?_ hS ?_
 rotate_left
 ·(intro w' hSw; (try dsimp only at hSw); have p0:=cellC hSw p0; have p1:=cellC hSw p1; have p2:=cellC hSw p2; have p3:=cellC hSw p3; have p4:=cellC hSw p4; have p5:=cellC hSw p5; have p6:=cellC hSw p6; have p7:=cellC hSw p7; go_simp; try with_reducible rfl)
 try simp only [Act.put,Sp1,Sp2,Sp3,Sp4,Sp5,Sp6]
 refine AnyG.one (i:=3) (by kernel_rfl) rfl rfl ?_
 go_simp
 rw [← xarr_def lo hi]
 refine (greatest_any lo hi _).mono ?_
 rintro e3 y3 ⟨rfl,hq3⟩
 have hT:=hS.trans (hq3.mono hS.size)
 clear hS
 have hS:=hT
 clear hT
 refine Onward.on hS (fun hS2 => ?_)
 clear hS
 have hS:=hS2
 clear hS2
 try simp only [Act.put,Sp1,Sp2,Sp3,Sp4,Sp5,Sp6]
 refine AnyG.one (i:=4) (by kernel_rfl) rfl rfl ?_
 go_simp
 refine (weigh_any LA ln lc BA bn bc o hi _ HL.out HB.out ((hA.below (B0.trans (hS.mono B0.size))).more (B0.trans (hS.mono B0.size)).size) HO.out HSX.out).mono ?_
 rintro e4 y4 ⟨rfl,hq4⟩
 rw [HK.out,HC.out]
 have hT:=hS.trans (hq4.mono hS.size)
 clear hS
 have hS:=hT
 clear hT
 refine Onward.on hS (fun hS2 => ?_)
 clear hS
 have hS:=hS2
 clear hS2
 try simp only [Act.put,Sp1,Sp2,Sp3,Sp4,Sp5,Sp6]
 refine AnyG.takeC (i:=5) (v:=?_) rfl (by kernel_rfl) (fun _ _ _ h => h) rfl ?_ hS ?_
 rotate_left
 ·(intro w' hSw; (try dsimp only at hSw); go_simp; try with_reducible rfl)
 try simp only [Act.put,Sp1,Sp2,Sp3,Sp4,Sp5,Sp6]
 refine AnyG.takeC (i:=6) (v:=?_) rfl (by kernel_rfl) (fun _ _ _ h => h) rfl ?_ hS ?_
 rotate_left
 ·(intro w' hSw; (try dsimp only at hSw); go_simp; try with_reducible rfl)
 try simp only [Act.put,Sp1,Sp2,Sp3,Sp4,Sp5,Sp6]
 refine AnyG.takeC (i:=7) (v:=?_) rfl (by kernel_rfl) (fun _ _ _ h => h) rfl ?_ hS ?_
 rotate_left
 ·(intro w' hSw; (try dsimp only at hSw); go_simp; try with_reducible rfl)
 try simp only [Act.put,Sp1,Sp2,Sp3,Sp4,Sp5,Sp6]
 refine AnyG.takeC (i:=8) (v:=?_) rfl (by kernel_rfl) (fun _ _ _ h => h) rfl ?_ hS ?_
 rotate_left
 ·(intro w' hSw; (try dsimp only at hSw); go_simp; try with_reducible rfl)
 try simp only [Act.put,Sp1,Sp2,Sp3,Sp4,Sp5,Sp6]
 refine AnyG.takeC (i:=9) (v:=?_) rfl (by kernel_rfl) (fun _ _ _ h => h) rfl ?_ hS ?_
 rotate_left
 ·(intro w' hSw; (try dsimp only at hSw); go_simp; try with_reducible rfl)
 try simp only [Act.put,Sp1,Sp2,Sp3,Sp4,Sp5,Sp6]
 refine AnyG.done (by kernel_rfl) ?_ _
 go_simp
 replace c0:=cellC hS c0
 replace c1:=cellC hS c1
 replace c2:=cellC hS c2
 replace c3:=cellC hS c3
 replace c4:=cellC hS c4
 clear cf cz p0 p1 p2 p3 p4 p5 p6 p7 pf pz
 go_wp2_with fail
 go_ret
 exact ⟨ret_bool HRES.out.symm,B0.trans (hS.mono B0.size)⟩
set_option maxRecDepth 100000 in
set_option maxHeartbeats 1000000 in
theorem isHeavy_any (LA : Option Addr) (ln lc : Nat) (BA : Option Addr) (bn bc : Nat) (o : Od) (p : Int) (lo hi : Nat → Int) (j : Int) (w : World) (hl : o.lm.length = ln) (hb' : o.bs.length = bn) (hA : OrdAt w w.heap.size LA BA o) (ho : o.Ok) (hbx : BoxOk lo hi) :
  Calls Try.prog 105 #[.agg #[.slice LA ln lc,.int .i64 o.le,.int .i64 o.mo,.slice BA bn bc,.int .i64 p],.agg (xarr lo hi),.int .i64 j] w fun e w' => e = .returned (.bool (isH o lo)) ∧ Below w.heap.size w w':=by
 have k1:=(Bx.new w 100 #[.slice LA ln lc,.int .i64 o.le,.int .i64 o.mo,.slice BA bn bc,.int .i64 p]).alloc (.cells (xarr lo hi) 91)
 have k2:=Bx.at (w.alloc (.cells #[.slice LA ln lc,.int .i64 o.le,.int .i64 o.mo,.slice BA bn bc,.int .i64 p] 100)) 91 (xarr lo hi) (n:=w.heap.size + 1) (by simp)
 have B0:=((Below.refl w.heap.size w).alloc (Nat.le_refl _) (.cells #[.slice LA ln lc,.int .i64 o.le,.int .i64 o.mo,.slice BA bn bc,.int .i64 p] 100)).alloc (by simp) (.cells (xarr lo hi) 91)
 have HRES : Hid ((isH o lo) = decide (o.mo < kil o lo bn)):=Lib.hid (by unfold isH; rw [hb'])
 have HB:=Lib.hid hb'
 have HL:=Lib.hid hl
 have HO:=Lib.hid ho
 have HSX:=Lib.hid hbx.six
 obtain ⟨K,hK⟩ : ∃ K,kil o lo bn = K:=⟨_,rfl⟩
 obtain ⟨C,hC⟩ : ∃ C,cst o lo bn = C:=⟨_,rfl⟩
 rw [hK] at HRES
 have HK:=Lib.hid hK
 have HC:=Lib.hid hC
 clear hb' hl ho hbx hK hC
 obtain ⟨c0,c1,c2,c3,c4,cf,cz⟩:=k1.five
 obtain ⟨p0,p1,p2,p3,p4,p5,p6,p7,pf,pz⟩:=k2.xarr
 go_enter Try.func105,Try.ntmps105
 go_wp2_with fail
 obtain ⟨w1,hw1⟩ : ∃ w1,(w.alloc (.cells #[.slice LA ln lc,.int .i64 o.le,.int .i64 o.mo,.slice BA bn bc,.int .i64 p] 100)).alloc (.cells (xarr lo hi) 91) = w1:=⟨_,rfl⟩
 rw [hw1] at k1 k2 B0 c0 c1 c2 c3 c4 cf cz p0 p1 p2 p3 p4 p5 p6 p7 pf pz ⊢
 clear hw1
 refine AnyG.startC (by kernel_rfl) ?_
 refine AnyG.takeP (i:=0) (v:=?_) rfl (by kernel_rfl) (fun _ _ _ h => h) rfl ?_ ?_
 rotate_left
 ·(intro w'; go_simp; try with_reducible rfl)
 try simp only [Act.put,Sp1,Sp2,Sp3,Sp4,Sp5,Sp6]
 refine AnyG.enter (fun w' : World => Below w1.heap.size w1 w') (fun i => true) ?_
 have hS : (fun w' : World => Below w1.heap.size w1 w') (World.drew _):=(Below.refl _ _).drew
 refine AnyG.takeC (i:=1) (v:=?_) rfl (by kernel_rfl) (fun _ _ _ h => h) rfl ?_ hS ?_
 rotate_left
 ·(intro w' hSw; (try dsimp only at hSw); have c0:=cellC hSw c0; have c1:=cellC hSw c1; have c2:=cellC hSw c2; have c3:=cellC hSw c3; have c4:=cellC hSw c4; go_simp; try with_reducible rfl)
 try simp only [Act.put,Sp1,Sp2,Sp3,Sp4,Sp5,Sp6]
 refine AnyG.takeC (i:=2) (v:=?_) rfl (by kernel_rfl) (fun _ _ _ h => h) rfl ?_ hS ?_
 rotate_left
 ·(intro w' hSw; (try dsimp only at hSw); have p0:=cellC hSw p0; have p1:=cellC hSw p1; have p2:=cellC hSw p2; have p3:=cellC hSw p3; have p4:=cellC hSw p4; have p5:=cellC hSw p5; have p6:=cellC hSw p6; have p7:=cellC hSw p7; go_simp; try with_reducible rfl)
 try simp only [Act.put,Sp1,Sp2,Sp3,Sp4,Sp5,Sp6]
 refine AnyG.one (i:=3) (by kernel_rfl) rfl rfl ?_
 go_simp
 rw [← xarr_def lo hi]
 refine (least_any lo hi _).mono ?_
 rintro e3 y3 ⟨rfl,hq3⟩
 have hT:=hS.trans (hq3.mono hS.size)
 clear hS
 have hS:=hT
 clear hT
 refine Onward.on hS (fun hS2 => ?_)
 clear hS
 have hS:=hS2
 clear hS2
 try simp only [Act.put,Sp1,Sp2,Sp3,Sp4,Sp5,Sp6]
 refine AnyG.one (i:=4) (by kernel_rfl) rfl rfl ?_
 go_simp
 refine (weigh_any LA ln lc BA bn bc o lo _ HL.out HB.out ((hA.below (B0.trans (hS.mono B0.size))).more (B0.trans (hS.mono B0.size)).size) HO.out HSX.out).mono ?_
 rintro e4 y4 ⟨rfl,hq4⟩
 rw [HK.out,HC.out]
 have hT:=hS.trans (hq4.mono hS.size)
 clear hS
 have hS:=hT
 clear hT
 refine Onward.on hS (fun hS2 => ?_)
 clear hS
 have hS:=hS2
 clear hS2
 try simp only [Act.put,Sp1,Sp2,Sp3,Sp4,Sp5,Sp6]
 refine AnyG.takeC (i:=5) (v:=?_) rfl (by kernel_rfl) (fun _ _ _ h => h) rfl ?_ hS ?_
 rotate_left
 ·(intro w' hSw; (try dsimp only at hSw); go_simp; try with_reducible rfl)
 try simp only [Act.put,Sp1,Sp2,Sp3,Sp4,Sp5,Sp6]
 refine AnyG.takeC (i:=6) (v:=?_) rfl (by kernel_rfl) (fun _ _ _ h => h) rfl ?_ hS ?_
 rotate_left
 ·(intro w' hSw; (try dsimp only at hSw); go_simp; try with_reducible rfl)
 try simp only [Act.put,Sp1,Sp2,Sp3,Sp4,Sp5,Sp6]
 refine AnyG.takeC (i:=7) (v:=?_) rfl (by kernel_rfl) (fun _ _ _ h => h) rfl ?_ hS ?_
 rotate_left
 ·(intro w' hSw; (try dsimp only at hSw); go_simp; try with_reducible rfl)
 try simp only [Act.put,Sp1,Sp2,Sp3,Sp4,Sp5,Sp6]
 refine AnyG.takeC (i:=8) (v:=?_) rfl (by kernel_rfl) (fun _ _ _ h => h) rfl ?_ hS ?_
 rotate_left
 ·(intro w' hSw; (try dsimp only at hSw); go_simp; try with_reducible rfl)
 try simp only [Act.put,Sp1,Sp2,Sp3,Sp4,Sp5,Sp6]
 refine AnyG.takeC (i:=9) (v:=?_) rfl (by kernel_rfl) (fun _ _ _ h => h) rfl ?_ hS ?_
 rotate_left
 ·(intro w' hSw; (try dsimp only at hSw); go_simp; try with_reducible rfl)
 try simp only [Act.put,Sp1,Sp2,Sp3,Sp4,Sp5,Sp6]
 refine AnyG.done (by kernel_rfl) ?_ _
 go_simp
 replace c0:=cellC hS c0
 replace c1:=cellC hS c1
 replace c2:=cellC hS c2
 replace c3:=cellC hS c3
 replace c4:=cellC hS c4
 clear cf cz p0 p1 p2 p3 p4 p5 p6 p7 pf pz
 go_wp2_with fail
 go_ret
 exact ⟨ret_bool HRES.out.symm,B0.trans (hS.mono B0.size)⟩
set_option maxRecDepth 100000 in
set_option maxHeartbeats 1000000 in
theorem isDear_any (LA : Option Addr) (ln lc : Nat) (BA : Option Addr) (bn bc : Nat) (o : Od) (p : Int) (lo hi : Nat → Int) (j : Int) (w : World) (hl : o.lm.length = ln) (hb' : o.bs.length = bn) (hA : OrdAt w w.heap.size LA BA o) (ho : o.Ok) (hbx : BoxOk lo hi) :
  Calls Try.prog 107 #[.agg #[.slice LA ln lc,.int .i64 o.le,.int .i64 o.mo,.slice BA bn bc,.int .i64 p],.agg (xarr lo hi),.int .i64 j] w fun e w' => e = .returned (.bool (isD o p lo)) ∧ Below w.heap.size w w':=by
 have k1:=(Bx.new w 100 #[.slice LA ln lc,.int .i64 o.le,.int .i64 o.mo,.slice BA bn bc,.int .i64 p]).alloc (.cells (xarr lo hi) 91)
 have k2:=Bx.at (w.alloc (.cells #[.slice LA ln lc,.int .i64 o.le,.int .i64 o.mo,.slice BA bn bc,.int .i64 p] 100)) 91 (xarr lo hi) (n:=w.heap.size + 1) (by simp)
 have B0:=((Below.refl w.heap.size w).alloc (Nat.le_refl _) (.cells #[.slice LA ln lc,.int .i64 o.le,.int .i64 o.mo,.slice BA bn bc,.int .i64 p] 100)).alloc (by simp) (.cells (xarr lo hi) 91)
 have HRES : Hid ((isD o p lo) = decide (p ≤ cst o lo bn)):=Lib.hid (by unfold isD; rw [hb'])
 have HB:=Lib.hid hb'
 have HL:=Lib.hid hl
 have HO:=Lib.hid ho
 have HSX:=Lib.hid hbx.six
 obtain ⟨K,hK⟩ : ∃ K,kil o lo bn = K:=⟨_,rfl⟩
 obtain ⟨C,hC⟩ : ∃ C,cst o lo bn = C:=⟨_,rfl⟩
 rw [hC] at HRES
 have HK:=Lib.hid hK
 have HC:=Lib.hid hC
 clear hb' hl ho hbx hK hC
 obtain ⟨c0,c1,c2,c3,c4,cf,cz⟩:=k1.five
 obtain ⟨p0,p1,p2,p3,p4,p5,p6,p7,pf,pz⟩:=k2.xarr
 go_enter Try.func107,Try.ntmps107
 go_wp2_with fail
 obtain ⟨w1,hw1⟩ : ∃ w1,(w.alloc (.cells #[.slice LA ln lc,.int .i64 o.le,.int .i64 o.mo,.slice BA bn bc,.int .i64 p] 100)).alloc (.cells (xarr lo hi) 91) = w1:=⟨_,rfl⟩
 rw [hw1] at k1 k2 B0 c0 c1 c2 c3 c4 cf cz p0 p1 p2 p3 p4 p5 p6 p7 pf pz ⊢
 clear hw1
 refine AnyG.startC (by kernel_rfl) ?_
 refine AnyG.takeP (i:=0) (v:=?_) rfl (by kernel_rfl) (fun _ _ _ h => h) rfl ?_ ?_
 rotate_left
 ·(intro w'; go_simp; try with_reducible rfl)
 try simp only [Act.put,Sp1,Sp2,Sp3,Sp4,Sp5,Sp6]
 refine AnyG.enter (fun w' : World => Below w1.heap.size w1 w') (fun i => true) ?_
 have hS : (fun w' : World => Below w1.heap.size w1 w') (World.drew _):=(Below.refl _ _).drew
 refine AnyG.takeC (i:=1) (v:=?_) rfl (by kernel_rfl) (fun _ _ _ h => h) rfl ?_ hS ?_
 rotate_left
 ·(intro w' hSw; (try dsimp only at hSw); have c0:=cellC hSw c0; have c1:=cellC hSw c1; have c2:=cellC hSw c2; have c3:=cellC hSw c3; have c4:=cellC hSw c4; go_simp; try with_reducible rfl)
 try simp only [Act.put,Sp1,Sp2,Sp3,Sp4,Sp5,Sp6]
 refine AnyG.takeC (i:=2) (v:=?_) rfl (by kernel_rfl) (fun _ _ _ h => h) rfl ?_ hS ?_
 rotate_left
 ·(intro w' hSw; (try dsimp only at hSw); have p0:=cellC hSw p0; have p1:=cellC hSw p1; have p2:=cellC hSw p2; have p3:=cellC hSw p3; have p4:=cellC hSw p4; have p5:=cellC hSw p5; have p6:=cellC hSw p6; have p7:=cellC hSw p7; go_simp; try with_reducible rfl)
 try simp only [Act.put,Sp1,Sp2,Sp3,Sp4,Sp5,Sp6]
 refine AnyG.one (i:=3) (by kernel_rfl) rfl rfl ?_
 go_simp
 rw [← xarr_def lo hi]
 refine (least_any lo hi _).mono ?_
 rintro e3 y3 ⟨rfl,hq3⟩
 have hT:=hS.trans (hq3.mono hS.size)
 clear hS
 have hS:=hT
 clear hT
 refine Onward.on hS (fun hS2 => ?_)
 clear hS
 have hS:=hS2
 clear hS2
 try simp only [Act.put,Sp1,Sp2,Sp3,Sp4,Sp5,Sp6]
 refine AnyG.one (i:=4) (by kernel_rfl) rfl rfl ?_
 go_simp
 refine (weigh_any LA ln lc BA bn bc o lo _ HL.out HB.out ((hA.below (B0.trans (hS.mono B0.size))).more (B0.trans (hS.mono B0.size)).size) HO.out HSX.out).mono ?_
 rintro e4 y4 ⟨rfl,hq4⟩
 rw [HK.out,HC.out]
 have hT:=hS.trans (hq4.mono hS.size)
 clear hS
 have hS:=hT
 clear hT
 refine Onward.on hS (fun hS2 => ?_)
 clear hS
 have hS:=hS2
 clear hS2
 try simp only [Act.put,Sp1,Sp2,Sp3,Sp4,Sp5,Sp6]
 refine AnyG.takeC (i:=5) (v:=?_) rfl (by kernel_rfl) (fun _ _ _ h => h) rfl ?_ hS ?_
 rotate_left
 ·(intro w' hSw; (try dsimp only at hSw); go_simp; try with_reducible rfl)
 try simp only [Act.put,Sp1,Sp2,Sp3,Sp4,Sp5,Sp6]
 refine AnyG.takeC (i:=6) (v:=?_) rfl (by kernel_rfl) (fun _ _ _ h => h) rfl ?_ hS ?_
 rotate_left
 ·(intro w' hSw; (try dsimp only at hSw); go_simp; try with_reducible rfl)
 try simp only [Act.put,Sp1,Sp2,Sp3,Sp4,Sp5,Sp6]
 refine AnyG.takeC (i:=7) (v:=?_) rfl (by kernel_rfl) (fun _ _ _ h => h) rfl ?_ hS ?_
 rotate_left
 ·(intro w' hSw; (try dsimp only at hSw); go_simp; try with_reducible rfl)
 try simp only [Act.put,Sp1,Sp2,Sp3,Sp4,Sp5,Sp6]
 refine AnyG.takeC (i:=8) (v:=?_) rfl (by kernel_rfl) (fun _ _ _ h => h) rfl ?_ hS ?_
 rotate_left
 ·(intro w' hSw; (try dsimp only at hSw); go_simp; try with_reducible rfl)
 try simp only [Act.put,Sp1,Sp2,Sp3,Sp4,Sp5,Sp6]
 refine AnyG.takeC (i:=9) (v:=?_) rfl (by kernel_rfl) (fun _ _ _ h => h) rfl ?_ hS ?_
 rotate_left
 ·(intro w' hSw; (try dsimp only at hSw); go_simp; try with_reducible rfl)
 try simp only [Act.put,Sp1,Sp2,Sp3,Sp4,Sp5,Sp6]
 refine AnyG.done (by kernel_rfl) ?_ _
 go_simp
 replace c0:=cellC hS c0
 replace c1:=cellC hS c1
 replace c2:=cellC hS c2
 replace c3:=cellC hS c3
 replace c4:=cellC hS c4
 clear cf cz p0 p1 p2 p3 p4 p5 p6 p7 pf pz
 go_wp2_with fail
 go_ret
 exact ⟨ret_bool HRES.out.symm,B0.trans (hS.mono B0.size)⟩
end Go.Proofs.Ytmemcopfeabcgaa
