/- melt.claim.checkCut, checkBound: the error of a bound, by itself. -/
import Derived.Test.YtmemcopfeabcgaaVm
import Derived.Test.YtmemcopfeabcgaaFr
set_option linter.unusedSimpArgs false
set_option linter.unusedVariables false
namespace Go.Proofs.Ytmemcopfeabcgaa
open Go Go.RowKit
set_option maxRecDepth 100000 in
set_option maxHeartbeats 4000000 in
theorem checkCut_any (LA : Option Addr) (ln lc : Nat) (BA : Option Addr) (bn bc : Nat) (o : Od) (p : Int) (lo hi : Nat → Int) (rs at_ ct : Int) (w : World) (h4 : bn ≤ 4) (hbx : BoxOk lo hi) :
  Calls Try.prog 100 #[.agg #[.slice LA ln lc,.int .i64 o.le,.int .i64 o.mo,.slice BA bn bc,.int .i64 p],.agg #[.int .i64 rs,.int .i64 at_,.int .i64 ct],.agg (xarr lo hi)] w fun e w' => e = .returned (.int .i64 (if at_ < 0 ∨ (bn : Int) - 1 < at_ then 3 else if ct < lo at_.toNat ∨ hi at_.toNat - 1 < ct then 1 else 0)) ∧ Below w.heap.size w w':=by
 have k1:=((Bx.new w 100 #[.slice LA ln lc,.int .i64 o.le,.int .i64 o.mo,.slice BA bn bc,.int .i64 p]).alloc (.cells #[.int .i64 rs,.int .i64 at_,.int .i64 ct] 69)).alloc (.cells (xarr lo hi) 91)
 have k2:=(Bx.at (w.alloc (.cells #[.slice LA ln lc,.int .i64 o.le,.int .i64 o.mo,.slice BA bn bc,.int .i64 p] 100)) 69 #[.int .i64 rs,.int .i64 at_,.int .i64 ct] (n:=w.heap.size + 1) (by simp)).alloc (.cells (xarr lo hi) 91)
 have k3:=Bx.at ((w.alloc (.cells #[.slice LA ln lc,.int .i64 o.le,.int .i64 o.mo,.slice BA bn bc,.int .i64 p] 100)).alloc (.cells #[.int .i64 rs,.int .i64 at_,.int .i64 ct] 69)) 91 (xarr lo hi) (n:=w.heap.size + 1 + 1) (by simp)
 have B0:=(((Below.refl w.heap.size w).alloc (Nat.le_refl _) (.cells #[.slice LA ln lc,.int .i64 o.le,.int .i64 o.mo,.slice BA bn bc,.int .i64 p] 100)).alloc (by simp) (.cells #[.int .i64 rs,.int .i64 at_,.int .i64 ct] 69)).alloc (by simp; omega) (.cells (xarr lo hi) 91)
 obtain ⟨W1,hW1⟩ : ∃ W1,((w.alloc (.cells #[.slice LA ln lc,.int .i64 o.le,.int .i64 o.mo,.slice BA bn bc,.int .i64 p] 100)).alloc (.cells #[.int .i64 rs,.int .i64 at_,.int .i64 ct] 69)).alloc (.cells (xarr lo hi) 91) = W1:=⟨_,rfl⟩
 rw [hW1] at k1 k2 k3 B0
 have HW:=Lib.hid hW1
 clear hW1
 have hbw : IntKind.i64.wrap ((bn : Int) - 1) = (bn : Int) - 1:=IntWalk.i64_in _ (by omega)
 obtain ⟨c0,c1,c2,c3,c4,cf,cz⟩:=k1.five
 obtain ⟨b0,b1,b2,bf,bz⟩:=k2.three
 by_cases hr : at_ < 0 ∨ (bn : Int) - 1 < at_
 ·rw [if_pos hr]
  go_enter Try.func100,Try.ntmps100
  go_wp2_with (go_at_call 81; rw [HW.out]; refine (isWithin_no _ _ _ _ (by omega)).mono ?_; rintro e w1 ⟨rfl,hb1⟩)
  go_ret
  exact ⟨rfl,B0.trans (hb1.mono B0.size)⟩
 ·rw [if_neg hr]
  obtain ⟨m,rfl⟩ : ∃ m : Nat,at_ = m:=⟨at_.toNat,by omega⟩
  have hm : m < bn:=by omega
  have hm4 : m < 4:=by omega
  rw [Int.toNat_natCast]
  clear hr
  by_cases hc : ct < lo m ∨ hi m - 1 < ct
  ·rw [if_pos hc]
   have hm4i : (m : Int) < 4:=by omega
   have h6:=hbx.six2 m
   have hlw : IntKind.i64.wrap (hi m - 1) = hi m - 1:=IntWalk.i64_in _ (by omega)
   go_enter Try.func100,Try.ntmps100
   go_wp2_with (first | (go_at_call 81; rw [HW.out]; refine (isWithin_yes _ _ _ _ (by omega)).mono ?_; rintro e w1 ⟨rfl,hb1⟩) | fail)
   replace k1:=k1.call hb1
   replace k2:=k2.call hb1
   replace k3:=k3.call hb1
   have B1:=B0.trans (hb1.mono B0.size)
   clear c0 c1 c2 c3 c4 cf cz b0 b1 b2 bf bz B0 hb1
   refine AnyG.startC (by kernel_rfl) ?_
   refine AnyG.takeP (i:=0) (v:=?_) rfl (by kernel_rfl) (fun _ _ _ h => h) rfl ?_ ?_
   rotate_left
   ·(intro w'; go_simp; try with_reducible rfl)
   try simp only [Act.put,Sp1,Sp2,Sp3,Sp4,Sp5,Sp6]
   refine AnyG.takeP (i:=2) (v:=?_) rfl (by kernel_rfl) (fun _ _ _ h => h) rfl ?_ ?_
   rotate_left
   ·(intro w'; go_simp; try with_reducible rfl)
   try simp only [Act.put,Sp1,Sp2,Sp3,Sp4,Sp5,Sp6]
   refine AnyG.takeP (i:=7) (v:=?_) rfl (by kernel_rfl) (fun _ _ _ h => h) rfl ?_ ?_
   rotate_left
   ·(intro w'; go_simp; try with_reducible rfl)
   try simp only [Act.put,Sp1,Sp2,Sp3,Sp4,Sp5,Sp6]
   refine AnyG.enter (fun w' : World => Below w1.heap.size w1 w') (fun i => true) ?_
   have hS : (fun w' : World => Below w1.heap.size w1 w') (World.drew _):=(Below.refl _ _).drew
   refine AnyG.takeC (i:=1) (v:=?_) rfl (by kernel_rfl) (fun _ _ _ h => h) rfl ?_ hS ?_
   rotate_left
   ·(intro w' hSw; (try dsimp only at hSw); obtain ⟨b0,b1,b2,bf,bz⟩:=(k2.call hSw).three; go_simp; try with_reducible rfl)
   try simp only [Act.put,Sp1,Sp2,Sp3,Sp4,Sp5,Sp6]
   refine AnyG.takeC (i:=3) (v:=?_) rfl (by kernel_rfl) (fun _ _ _ h => h) rfl ?_ hS ?_
   rotate_left
   ·(intro w' hSw; (try dsimp only at hSw); obtain ⟨b0,b1,b2,bf,bz⟩:=(k2.call hSw).three; go_simp; try with_reducible rfl)
   try simp only [Act.put,Sp1,Sp2,Sp3,Sp4,Sp5,Sp6]
   refine AnyG.takeC (i:=4) (v:=?_) rfl (by kernel_rfl) (fun _ _ _ h => h) rfl ?_ hS ?_
   rotate_left
   ·(intro w' hSw; (try dsimp only at hSw); go_simp; try with_reducible rfl)
   try simp only [Act.put,Sp1,Sp2,Sp3,Sp4,Sp5,Sp6]
   refine AnyG.takeC (i:=5) (v:=?_) rfl (by kernel_rfl) (fun _ _ _ h => h) rfl ?_ hS ?_
   rotate_left
   ·(intro w' hSw; (try dsimp only at hSw); go_simp; try with_reducible rfl)
   try simp only [Act.put,Sp1,Sp2,Sp3,Sp4,Sp5,Sp6]
   refine AnyG.takeC (i:=6) (v:=?_) rfl (by kernel_rfl) (fun _ _ _ h => h) rfl ?_ hS ?_
   rotate_left
   ·(intro w' hSw; (try dsimp only at hSw); have x0:=((k3.call hSw).cell (m * 2)).trans (xarr_lo lo hi hm4); have x1:=((k3.call hSw).cell (m * 2 + 1)).trans (xarr_hi lo hi hm4); go_simp; try with_reducible rfl)
   try simp only [Act.put,Sp1,Sp2,Sp3,Sp4,Sp5,Sp6]
   refine AnyG.takeC (i:=8) (v:=?_) rfl (by kernel_rfl) (fun _ _ _ h => h) rfl ?_ hS ?_
   rotate_left
   ·(intro w' hSw; (try dsimp only at hSw); obtain ⟨b0,b1,b2,bf,bz⟩:=(k2.call hSw).three; go_simp; try with_reducible rfl)
   try simp only [Act.put,Sp1,Sp2,Sp3,Sp4,Sp5,Sp6]
   refine AnyG.takeC (i:=9) (v:=?_) rfl (by kernel_rfl) (fun _ _ _ h => h) rfl ?_ hS ?_
   rotate_left
   ·(intro w' hSw; (try dsimp only at hSw); go_simp; try with_reducible rfl)
   try simp only [Act.put,Sp1,Sp2,Sp3,Sp4,Sp5,Sp6]
   refine AnyG.takeC (i:=10) (v:=?_) rfl (by kernel_rfl) (fun _ _ _ h => h) rfl ?_ hS ?_
   rotate_left
   ·(intro w' hSw; (try dsimp only at hSw); go_simp; try with_reducible rfl)
   try simp only [Act.put,Sp1,Sp2,Sp3,Sp4,Sp5,Sp6]
   refine AnyG.takeC (i:=11) (v:=?_) rfl (by kernel_rfl) (fun _ _ _ h => h) rfl ?_ hS ?_
   rotate_left
   ·(intro w' hSw; (try dsimp only at hSw); have x0:=((k3.call hSw).cell (m * 2)).trans (xarr_lo lo hi hm4); have x1:=((k3.call hSw).cell (m * 2 + 1)).trans (xarr_hi lo hi hm4); go_simp; try with_reducible rfl)
   try simp only [Act.put,Sp1,Sp2,Sp3,Sp4,Sp5,Sp6]
   refine AnyG.takeC (i:=12) (v:=?_) rfl (by kernel_rfl) (fun _ _ _ h => h) rfl ?_ hS ?_
   rotate_left
   ·(intro w' hSw; (try dsimp only at hSw); go_simp; try with_reducible rfl)
   try simp only [Act.put,Sp1,Sp2,Sp3,Sp4,Sp5,Sp6]
   refine AnyG.one (i:=13) (by kernel_rfl) rfl rfl ?_
   go_simp
   refine (isWithin_no _ _ _ _ (by omega)).mono ?_
   rintro e5 y5 ⟨rfl,hb5⟩
   refine Onward.on (hS.trans (hb5.mono hS.size)) (fun hS2 => ?_)
   clear hS
   have hS:=hS2
   clear hS2
   try simp only [Act.put,Sp1,Sp2,Sp3,Sp4,Sp5,Sp6]
   refine AnyG.takeC (i:=14) (v:=?_) rfl (by kernel_rfl) (fun _ _ _ h => h) rfl ?_ hS ?_
   rotate_left
   ·(intro w' hSw; (try dsimp only at hSw); go_simp; try with_reducible rfl)
   try simp only [Act.put,Sp1,Sp2,Sp3,Sp4,Sp5,Sp6]
   refine AnyG.done (by kernel_rfl) ?_ _
   go_simp
   have hB2:=B1.trans (hS.mono B1.size)
   go_wp2_with fail
   go_ret
   exact ⟨rfl,hB2⟩
  ·rw [if_neg hc]
   have hm4i : (m : Int) < 4:=by omega
   have h6:=hbx.six2 m
   have hlw : IntKind.i64.wrap (hi m - 1) = hi m - 1:=IntWalk.i64_in _ (by omega)
   go_enter Try.func100,Try.ntmps100
   go_wp2_with (first | (go_at_call 81; rw [HW.out]; refine (isWithin_yes _ _ _ _ (by omega)).mono ?_; rintro e w1 ⟨rfl,hb1⟩) | fail)
   replace k1:=k1.call hb1
   replace k2:=k2.call hb1
   replace k3:=k3.call hb1
   have B1:=B0.trans (hb1.mono B0.size)
   clear c0 c1 c2 c3 c4 cf cz b0 b1 b2 bf bz B0 hb1
   refine AnyG.startC (by kernel_rfl) ?_
   refine AnyG.takeP (i:=0) (v:=?_) rfl (by kernel_rfl) (fun _ _ _ h => h) rfl ?_ ?_
   rotate_left
   ·(intro w'; go_simp; try with_reducible rfl)
   try simp only [Act.put,Sp1,Sp2,Sp3,Sp4,Sp5,Sp6]
   refine AnyG.takeP (i:=2) (v:=?_) rfl (by kernel_rfl) (fun _ _ _ h => h) rfl ?_ ?_
   rotate_left
   ·(intro w'; go_simp; try with_reducible rfl)
   try simp only [Act.put,Sp1,Sp2,Sp3,Sp4,Sp5,Sp6]
   refine AnyG.takeP (i:=7) (v:=?_) rfl (by kernel_rfl) (fun _ _ _ h => h) rfl ?_ ?_
   rotate_left
   ·(intro w'; go_simp; try with_reducible rfl)
   try simp only [Act.put,Sp1,Sp2,Sp3,Sp4,Sp5,Sp6]
   refine AnyG.enter (fun w' : World => Below w1.heap.size w1 w') (fun i => true) ?_
   have hS : (fun w' : World => Below w1.heap.size w1 w') (World.drew _):=(Below.refl _ _).drew
   refine AnyG.takeC (i:=1) (v:=?_) rfl (by kernel_rfl) (fun _ _ _ h => h) rfl ?_ hS ?_
   rotate_left
   ·(intro w' hSw; (try dsimp only at hSw); obtain ⟨b0,b1,b2,bf,bz⟩:=(k2.call hSw).three; go_simp; try with_reducible rfl)
   try simp only [Act.put,Sp1,Sp2,Sp3,Sp4,Sp5,Sp6]
   refine AnyG.takeC (i:=3) (v:=?_) rfl (by kernel_rfl) (fun _ _ _ h => h) rfl ?_ hS ?_
   rotate_left
   ·(intro w' hSw; (try dsimp only at hSw); obtain ⟨b0,b1,b2,bf,bz⟩:=(k2.call hSw).three; go_simp; try with_reducible rfl)
   try simp only [Act.put,Sp1,Sp2,Sp3,Sp4,Sp5,Sp6]
   refine AnyG.takeC (i:=4) (v:=?_) rfl (by kernel_rfl) (fun _ _ _ h => h) rfl ?_ hS ?_
   rotate_left
   ·(intro w' hSw; (try dsimp only at hSw); go_simp; try with_reducible rfl)
   try simp only [Act.put,Sp1,Sp2,Sp3,Sp4,Sp5,Sp6]
   refine AnyG.takeC (i:=5) (v:=?_) rfl (by kernel_rfl) (fun _ _ _ h => h) rfl ?_ hS ?_
   rotate_left
   ·(intro w' hSw; (try dsimp only at hSw); go_simp; try with_reducible rfl)
   try simp only [Act.put,Sp1,Sp2,Sp3,Sp4,Sp5,Sp6]
   refine AnyG.takeC (i:=6) (v:=?_) rfl (by kernel_rfl) (fun _ _ _ h => h) rfl ?_ hS ?_
   rotate_left
   ·(intro w' hSw; (try dsimp only at hSw); have x0:=((k3.call hSw).cell (m * 2)).trans (xarr_lo lo hi hm4); have x1:=((k3.call hSw).cell (m * 2 + 1)).trans (xarr_hi lo hi hm4); go_simp; try with_reducible rfl)
   try simp only [Act.put,Sp1,Sp2,Sp3,Sp4,Sp5,Sp6]
   refine AnyG.takeC (i:=8) (v:=?_) rfl (by kernel_rfl) (fun _ _ _ h => h) rfl ?_ hS ?_
   rotate_left
   ·(intro w' hSw; (try dsimp only at hSw); obtain ⟨b0,b1,b2,bf,bz⟩:=(k2.call hSw).three; go_simp; try with_reducible rfl)
   try simp only [Act.put,Sp1,Sp2,Sp3,Sp4,Sp5,Sp6]
   refine AnyG.takeC (i:=9) (v:=?_) rfl (by kernel_rfl) (fun _ _ _ h => h) rfl ?_ hS ?_
   rotate_left
   ·(intro w' hSw; (try dsimp only at hSw); go_simp; try with_reducible rfl)
   try simp only [Act.put,Sp1,Sp2,Sp3,Sp4,Sp5,Sp6]
   refine AnyG.takeC (i:=10) (v:=?_) rfl (by kernel_rfl) (fun _ _ _ h => h) rfl ?_ hS ?_
   rotate_left
   ·(intro w' hSw; (try dsimp only at hSw); go_simp; try with_reducible rfl)
   try simp only [Act.put,Sp1,Sp2,Sp3,Sp4,Sp5,Sp6]
   refine AnyG.takeC (i:=11) (v:=?_) rfl (by kernel_rfl) (fun _ _ _ h => h) rfl ?_ hS ?_
   rotate_left
   ·(intro w' hSw; (try dsimp only at hSw); have x0:=((k3.call hSw).cell (m * 2)).trans (xarr_lo lo hi hm4); have x1:=((k3.call hSw).cell (m * 2 + 1)).trans (xarr_hi lo hi hm4); go_simp; try with_reducible rfl)
   try simp only [Act.put,Sp1,Sp2,Sp3,Sp4,Sp5,Sp6]
   refine AnyG.takeC (i:=12) (v:=?_) rfl (by kernel_rfl) (fun _ _ _ h => h) rfl ?_ hS ?_
   rotate_left
   ·(intro w' hSw; (try dsimp only at hSw); go_simp; try with_reducible rfl)
   try simp only [Act.put,Sp1,Sp2,Sp3,Sp4,Sp5,Sp6]
   refine AnyG.one (i:=13) (by kernel_rfl) rfl rfl ?_
   go_simp
   refine (isWithin_yes _ _ _ _ (by omega)).mono ?_
   rintro e5 y5 ⟨rfl,hb5⟩
   refine Onward.on (hS.trans (hb5.mono hS.size)) (fun hS2 => ?_)
   clear hS
   have hS:=hS2
   clear hS2
   try simp only [Act.put,Sp1,Sp2,Sp3,Sp4,Sp5,Sp6]
   refine AnyG.takeC (i:=14) (v:=?_) rfl (by kernel_rfl) (fun _ _ _ h => h) rfl ?_ hS ?_
   rotate_left
   ·(intro w' hSw; (try dsimp only at hSw); go_simp; try with_reducible rfl)
   try simp only [Act.put,Sp1,Sp2,Sp3,Sp4,Sp5,Sp6]
   refine AnyG.done (by kernel_rfl) ?_ _
   go_simp
   have hB2:=B1.trans (hS.mono B1.size)
   go_wp2_with fail
   go_ret
   exact ⟨rfl,hB2⟩
set_option maxRecDepth 100000 in
set_option maxHeartbeats 4000000 in
theorem checkBound_any (LA : Option Addr) (ln lc : Nat) (BA : Option Addr) (bn bc : Nat) (o : Od) (p : Int) (lo hi : Nat → Int) (rs at_ ct : Int) (w : World) (hl : o.lm.length = ln) (hb' : o.bs.length = bn) (hA : OrdAt w w.heap.size LA BA o) (ho : o.Ok) (hbx : BoxOk lo hi) :
  Calls Try.prog 90 #[.agg #[.slice LA ln lc,.int .i64 o.le,.int .i64 o.mo,.slice BA bn bc,.int .i64 p],.agg #[.int .i64 rs,.int .i64 at_,.int .i64 ct],.agg (xarr lo hi)] w fun e w' => e = .returned (.int .i64 (ckBd o p lo hi ⟨rs,at_,ct⟩)) ∧ Below w.heap.size w w':=by
 have hln3 : ln ≤ 3:=by rw [← hl]; exact ho.lm
 have hbn4 : bn ≤ 4:=by rw [← hb']; exact ho.b2
 have k1:=((Bx.new w 100 #[.slice LA ln lc,.int .i64 o.le,.int .i64 o.mo,.slice BA bn bc,.int .i64 p]).alloc (.cells #[.int .i64 rs,.int .i64 at_,.int .i64 ct] 69)).alloc (.cells (xarr lo hi) 91)
 have k2:=(Bx.at (w.alloc (.cells #[.slice LA ln lc,.int .i64 o.le,.int .i64 o.mo,.slice BA bn bc,.int .i64 p] 100)) 69 #[.int .i64 rs,.int .i64 at_,.int .i64 ct] (n:=w.heap.size + 1) (by simp)).alloc (.cells (xarr lo hi) 91)
 have k3:=Bx.at ((w.alloc (.cells #[.slice LA ln lc,.int .i64 o.le,.int .i64 o.mo,.slice BA bn bc,.int .i64 p] 100)).alloc (.cells #[.int .i64 rs,.int .i64 at_,.int .i64 ct] 69)) 91 (xarr lo hi) (n:=w.heap.size + 1 + 1) (by simp)
 have B0:=(((Below.refl w.heap.size w).alloc (Nat.le_refl _) (.cells #[.slice LA ln lc,.int .i64 o.le,.int .i64 o.mo,.slice BA bn bc,.int .i64 p] 100)).alloc (by simp) (.cells #[.int .i64 rs,.int .i64 at_,.int .i64 ct] 69)).alloc (by simp; omega) (.cells (xarr lo hi) 91)
 obtain ⟨W1,hW1⟩ : ∃ W1,((w.alloc (.cells #[.slice LA ln lc,.int .i64 o.le,.int .i64 o.mo,.slice BA bn bc,.int .i64 p] 100)).alloc (.cells #[.int .i64 rs,.int .i64 at_,.int .i64 ct] 69)).alloc (.cells (xarr lo hi) 91) = W1:=⟨_,rfl⟩
 rw [hW1] at k1 k2 k3 B0
 have HW:=Lib.hid hW1
 clear hW1
 have hAW:=(hA.below B0).more B0.size
 have HL:=Lib.hid hl
 have HB:=Lib.hid hb'
 have HO:=Lib.hid ho
 have HX:=Lib.hid hbx
 have hlw : IntKind.i64.wrap ((ln : Int) - 1) = (ln : Int) - 1:=IntWalk.i64_in _ (by omega)
 clear hl hb' ho hbx hA
 obtain ⟨c0,c1,c2,c3,c4,cf,cz⟩:=k1.five
 obtain ⟨b0,b1,b2,bf,bz⟩:=k2.three
 by_cases h1 : rs = 1
 ·subst h1
  have hck : ckBd o p lo hi ⟨1,at_,ct⟩ = (if at_ < 0 ∨ (bn : Int) - 1 < at_ then 3 else if ct < lo at_.toNat ∨ hi at_.toNat - 1 < ct then 1 else 0):=by simp only [ckBd,if_true,HB.out]
  have HCK:=Lib.hid hck
  clear hck
  obtain ⟨p0,p1,p2,p3,p4,p5,p6,p7,pf,pz⟩:=k3.xarr
  go_enter Try.func90,Try.ntmps90
  go_upto_region 4 with fail
  rw [HW.out]
  go_wp2_with (go_at_call 100; rw [← xarr_def lo hi]; refine (checkCut_any LA ln lc BA bn bc o p lo hi 1 at_ ct _ hbn4 HX.out).mono ?_; rintro e w1 ⟨rfl,hb1⟩; rw [← HCK.out])
  go_ret
  exact ⟨rfl,B0.trans (hb1.mono B0.size)⟩
 ·by_cases h2 : rs = 2
  ·subst h2
   have hwk : IntKind.i64.wrap 0 = 0:=IntWalk.i64_in _ (by omega)
   cases hv : isL o hi
   ·have HV:=Lib.hid hv
    have hck : ckBd o p lo hi ⟨2,at_,ct⟩ = 9:=by simp [ckBd,RightB,hv]
    rw [hck]
    clear hck hv
    go_enter Try.func90,Try.ntmps90
    go_upto_region 11 with fail
    rw [HW.out]
    clear c0 c1 c2 c3 c4 cf cz b0 b1 b2 bf bz
    go_wp2_with fail
    refine AnyG.startC (by kernel_rfl) ?_
    refine AnyG.takeP (i:=1) (v:=?_) rfl (by kernel_rfl) (fun _ _ _ h => h) rfl ?_ ?_
    rotate_left
    ·(intro w'; go_simp; try with_reducible rfl)
    try simp only [Act.put,Sp1,Sp2,Sp3,Sp4,Sp5,Sp6]
    refine AnyG.enter (fun w' : World => Below W1.heap.size W1 w') (fun i => true) ?_
    have hS : (fun w' : World => Below W1.heap.size W1 w') (World.drew _):=(Below.refl _ _).drew
    refine AnyG.takeC (i:=2) (v:=?_) rfl (by kernel_rfl) (fun _ _ _ h => h) rfl ?_ hS ?_
    rotate_left
    ·(intro w' hSw; (try dsimp only at hSw); obtain ⟨b0,b1,b2,bf,bz⟩:=(k2.call hSw).three; go_simp; try with_reducible rfl)
    try simp only [Act.put,Sp1,Sp2,Sp3,Sp4,Sp5,Sp6]
    refine AnyG.takeC (i:=3) (v:=?_) rfl (by kernel_rfl) (fun _ _ _ h => h) rfl ?_ hS ?_
    rotate_left
    ·(intro w' hSw; (try dsimp only at hSw); go_simp; try with_reducible rfl)
    try simp only [Act.put,Sp1,Sp2,Sp3,Sp4,Sp5,Sp6]
    refine AnyG.one (i:=0) (by kernel_rfl) rfl rfl ?_
    go_simp
    refine (reasons_any _).mono ?_
    rintro e1 y1 ⟨⟨rfl,k4⟩,hbr⟩
    refine Onward.on (hS.trans (hbr.mono hS.size)) (fun hS2 => ?_)
    clear hS
    have hS:=hS2
    clear hS2
    try simp only [Act.put,Sp1,Sp2,Sp3,Sp4,Sp5,Sp6]
    refine AnyG.takeC (i:=4) (v:=?_) rfl (by kernel_rfl) (fun _ _ _ h => h) rfl ?_ hS ?_
    rotate_left
    ·(intro w' hSw; (try dsimp only at hSw); go_simp; try with_reducible rfl)
    try simp only [Act.put,Sp1,Sp2,Sp3,Sp4,Sp5,Sp6]
    refine AnyG.one (i:=5) (by kernel_rfl) rfl rfl ?_
    have k5 : Bx y1 W1.heap.size 139 _:=k4
    obtain ⟨f0,f1,f2,f3,ff,fz⟩:=k5.four
    go_simp
    refine Onward.on hS (fun hS2 => ?_)
    clear hS
    have hS:=hS2
    clear hS2
    try simp only [Act.put,Sp1,Sp2,Sp3,Sp4,Sp5,Sp6]
    refine AnyG.takeC (i:=6) (v:=?_) rfl (by kernel_rfl) (fun _ _ _ h => h) rfl ?_ hS ?_
    rotate_left
    ·(intro w' hSw; (try dsimp only at hSw); go_simp; try with_reducible rfl)
    try simp only [Act.put,Sp1,Sp2,Sp3,Sp4,Sp5,Sp6]
    refine AnyG.done (by kernel_rfl) ?_ _
    have hS1 : Below W1.heap.size W1 y1:=hS
    clear hS
    go_simp
    replace k1:=k1.call hS1
    replace k2:=k2.call hS1
    replace k3:=k3.call hS1
    replace hAW:=hAW.call hS1
    have B1:=B0.trans (hS1.mono B0.size)
    obtain ⟨c0,c1,c2,c3,c4,cf,cz⟩:=k1.five
    obtain ⟨b0,b1,b2,bf,bz⟩:=k2.three
    obtain ⟨p0,p1,p2,p3,p4,p5,p6,p7,pf,pz⟩:=k3.xarr
    go_wp2_with (first | (go_at_call 104; rw [← xarr_def lo hi]; refine (isLight_any LA ln lc BA bn bc o p lo hi at_ _ HL.out HB.out hAW HO.out HX.out).mono ?_; rintro e w5 ⟨rfl,hbz⟩; rw [HV.out]) | fail)
    go_ret
    exact ⟨rfl,B1.trans (hbz.mono B1.size)⟩
   ·have HV:=Lib.hid hv
    have hck : ckBd o p lo hi ⟨2,at_,ct⟩ = 0:=by simp [ckBd,RightB,hv]
    rw [hck]
    clear hck hv
    go_enter Try.func90,Try.ntmps90
    go_upto_region 11 with fail
    rw [HW.out]
    clear c0 c1 c2 c3 c4 cf cz b0 b1 b2 bf bz
    go_wp2_with fail
    refine AnyG.startC (by kernel_rfl) ?_
    refine AnyG.takeP (i:=1) (v:=?_) rfl (by kernel_rfl) (fun _ _ _ h => h) rfl ?_ ?_
    rotate_left
    ·(intro w'; go_simp; try with_reducible rfl)
    try simp only [Act.put,Sp1,Sp2,Sp3,Sp4,Sp5,Sp6]
    refine AnyG.enter (fun w' : World => Below W1.heap.size W1 w') (fun i => true) ?_
    have hS : (fun w' : World => Below W1.heap.size W1 w') (World.drew _):=(Below.refl _ _).drew
    refine AnyG.takeC (i:=2) (v:=?_) rfl (by kernel_rfl) (fun _ _ _ h => h) rfl ?_ hS ?_
    rotate_left
    ·(intro w' hSw; (try dsimp only at hSw); obtain ⟨b0,b1,b2,bf,bz⟩:=(k2.call hSw).three; go_simp; try with_reducible rfl)
    try simp only [Act.put,Sp1,Sp2,Sp3,Sp4,Sp5,Sp6]
    refine AnyG.takeC (i:=3) (v:=?_) rfl (by kernel_rfl) (fun _ _ _ h => h) rfl ?_ hS ?_
    rotate_left
    ·(intro w' hSw; (try dsimp only at hSw); go_simp; try with_reducible rfl)
    try simp only [Act.put,Sp1,Sp2,Sp3,Sp4,Sp5,Sp6]
    refine AnyG.one (i:=0) (by kernel_rfl) rfl rfl ?_
    go_simp
    refine (reasons_any _).mono ?_
    rintro e1 y1 ⟨⟨rfl,k4⟩,hbr⟩
    refine Onward.on (hS.trans (hbr.mono hS.size)) (fun hS2 => ?_)
    clear hS
    have hS:=hS2
    clear hS2
    try simp only [Act.put,Sp1,Sp2,Sp3,Sp4,Sp5,Sp6]
    refine AnyG.takeC (i:=4) (v:=?_) rfl (by kernel_rfl) (fun _ _ _ h => h) rfl ?_ hS ?_
    rotate_left
    ·(intro w' hSw; (try dsimp only at hSw); go_simp; try with_reducible rfl)
    try simp only [Act.put,Sp1,Sp2,Sp3,Sp4,Sp5,Sp6]
    refine AnyG.one (i:=5) (by kernel_rfl) rfl rfl ?_
    have k5 : Bx y1 W1.heap.size 139 _:=k4
    obtain ⟨f0,f1,f2,f3,ff,fz⟩:=k5.four
    go_simp
    refine Onward.on hS (fun hS2 => ?_)
    clear hS
    have hS:=hS2
    clear hS2
    try simp only [Act.put,Sp1,Sp2,Sp3,Sp4,Sp5,Sp6]
    refine AnyG.takeC (i:=6) (v:=?_) rfl (by kernel_rfl) (fun _ _ _ h => h) rfl ?_ hS ?_
    rotate_left
    ·(intro w' hSw; (try dsimp only at hSw); go_simp; try with_reducible rfl)
    try simp only [Act.put,Sp1,Sp2,Sp3,Sp4,Sp5,Sp6]
    refine AnyG.done (by kernel_rfl) ?_ _
    have hS1 : Below W1.heap.size W1 y1:=hS
    clear hS
    go_simp
    replace k1:=k1.call hS1
    replace k2:=k2.call hS1
    replace k3:=k3.call hS1
    replace hAW:=hAW.call hS1
    have B1:=B0.trans (hS1.mono B0.size)
    obtain ⟨c0,c1,c2,c3,c4,cf,cz⟩:=k1.five
    obtain ⟨b0,b1,b2,bf,bz⟩:=k2.three
    obtain ⟨p0,p1,p2,p3,p4,p5,p6,p7,pf,pz⟩:=k3.xarr
    go_wp2_with (first | (go_at_call 104; rw [← xarr_def lo hi]; refine (isLight_any LA ln lc BA bn bc o p lo hi at_ _ HL.out HB.out hAW HO.out HX.out).mono ?_; rintro e w5 ⟨rfl,hbz⟩; rw [HV.out]) | fail)
    go_ret
    exact ⟨rfl,B1.trans (hbz.mono B1.size)⟩
  ·by_cases h3 : rs = 3
   ·subst h3
    have hwk : IntKind.i64.wrap 1 = 1:=IntWalk.i64_in _ (by omega)
    cases hv : isH o lo
    ·have HV:=Lib.hid hv
     have hck : ckBd o p lo hi ⟨3,at_,ct⟩ = 9:=by simp [ckBd,RightB,hv]
     rw [hck]
     clear hck hv
     go_enter Try.func90,Try.ntmps90
     go_upto_region 11 with fail
     rw [HW.out]
     clear c0 c1 c2 c3 c4 cf cz b0 b1 b2 bf bz
     go_wp2_with fail
     refine AnyG.startC (by kernel_rfl) ?_
     refine AnyG.takeP (i:=1) (v:=?_) rfl (by kernel_rfl) (fun _ _ _ h => h) rfl ?_ ?_
     rotate_left
     ·(intro w'; go_simp; try with_reducible rfl)
     try simp only [Act.put,Sp1,Sp2,Sp3,Sp4,Sp5,Sp6]
     refine AnyG.enter (fun w' : World => Below W1.heap.size W1 w') (fun i => true) ?_
     have hS : (fun w' : World => Below W1.heap.size W1 w') (World.drew _):=(Below.refl _ _).drew
     refine AnyG.takeC (i:=2) (v:=?_) rfl (by kernel_rfl) (fun _ _ _ h => h) rfl ?_ hS ?_
     rotate_left
     ·(intro w' hSw; (try dsimp only at hSw); obtain ⟨b0,b1,b2,bf,bz⟩:=(k2.call hSw).three; go_simp; try with_reducible rfl)
     try simp only [Act.put,Sp1,Sp2,Sp3,Sp4,Sp5,Sp6]
     refine AnyG.takeC (i:=3) (v:=?_) rfl (by kernel_rfl) (fun _ _ _ h => h) rfl ?_ hS ?_
     rotate_left
     ·(intro w' hSw; (try dsimp only at hSw); go_simp; try with_reducible rfl)
     try simp only [Act.put,Sp1,Sp2,Sp3,Sp4,Sp5,Sp6]
     refine AnyG.one (i:=0) (by kernel_rfl) rfl rfl ?_
     go_simp
     refine (reasons_any _).mono ?_
     rintro e1 y1 ⟨⟨rfl,k4⟩,hbr⟩
     refine Onward.on (hS.trans (hbr.mono hS.size)) (fun hS2 => ?_)
     clear hS
     have hS:=hS2
     clear hS2
     try simp only [Act.put,Sp1,Sp2,Sp3,Sp4,Sp5,Sp6]
     refine AnyG.takeC (i:=4) (v:=?_) rfl (by kernel_rfl) (fun _ _ _ h => h) rfl ?_ hS ?_
     rotate_left
     ·(intro w' hSw; (try dsimp only at hSw); go_simp; try with_reducible rfl)
     try simp only [Act.put,Sp1,Sp2,Sp3,Sp4,Sp5,Sp6]
     refine AnyG.one (i:=5) (by kernel_rfl) rfl rfl ?_
     have k5 : Bx y1 W1.heap.size 139 _:=k4
     obtain ⟨f0,f1,f2,f3,ff,fz⟩:=k5.four
     go_simp
     refine Onward.on hS (fun hS2 => ?_)
     clear hS
     have hS:=hS2
     clear hS2
     try simp only [Act.put,Sp1,Sp2,Sp3,Sp4,Sp5,Sp6]
     refine AnyG.takeC (i:=6) (v:=?_) rfl (by kernel_rfl) (fun _ _ _ h => h) rfl ?_ hS ?_
     rotate_left
     ·(intro w' hSw; (try dsimp only at hSw); go_simp; try with_reducible rfl)
     try simp only [Act.put,Sp1,Sp2,Sp3,Sp4,Sp5,Sp6]
     refine AnyG.done (by kernel_rfl) ?_ _
     have hS1 : Below W1.heap.size W1 y1:=hS
     clear hS
     go_simp
     replace k1:=k1.call hS1
     replace k2:=k2.call hS1
     replace k3:=k3.call hS1
     replace hAW:=hAW.call hS1
     have B1:=B0.trans (hS1.mono B0.size)
     obtain ⟨c0,c1,c2,c3,c4,cf,cz⟩:=k1.five
     obtain ⟨b0,b1,b2,bf,bz⟩:=k2.three
     obtain ⟨p0,p1,p2,p3,p4,p5,p6,p7,pf,pz⟩:=k3.xarr
     go_wp2_with (first | (go_at_call 105; rw [← xarr_def lo hi]; refine (isHeavy_any LA ln lc BA bn bc o p lo hi at_ _ HL.out HB.out hAW HO.out HX.out).mono ?_; rintro e w5 ⟨rfl,hbz⟩; rw [HV.out]) | fail)
     go_ret
     exact ⟨rfl,B1.trans (hbz.mono B1.size)⟩
    ·have HV:=Lib.hid hv
     have hck : ckBd o p lo hi ⟨3,at_,ct⟩ = 0:=by simp [ckBd,RightB,hv]
     rw [hck]
     clear hck hv
     go_enter Try.func90,Try.ntmps90
     go_upto_region 11 with fail
     rw [HW.out]
     clear c0 c1 c2 c3 c4 cf cz b0 b1 b2 bf bz
     go_wp2_with fail
     refine AnyG.startC (by kernel_rfl) ?_
     refine AnyG.takeP (i:=1) (v:=?_) rfl (by kernel_rfl) (fun _ _ _ h => h) rfl ?_ ?_
     rotate_left
     ·(intro w'; go_simp; try with_reducible rfl)
     try simp only [Act.put,Sp1,Sp2,Sp3,Sp4,Sp5,Sp6]
     refine AnyG.enter (fun w' : World => Below W1.heap.size W1 w') (fun i => true) ?_
     have hS : (fun w' : World => Below W1.heap.size W1 w') (World.drew _):=(Below.refl _ _).drew
     refine AnyG.takeC (i:=2) (v:=?_) rfl (by kernel_rfl) (fun _ _ _ h => h) rfl ?_ hS ?_
     rotate_left
     ·(intro w' hSw; (try dsimp only at hSw); obtain ⟨b0,b1,b2,bf,bz⟩:=(k2.call hSw).three; go_simp; try with_reducible rfl)
     try simp only [Act.put,Sp1,Sp2,Sp3,Sp4,Sp5,Sp6]
     refine AnyG.takeC (i:=3) (v:=?_) rfl (by kernel_rfl) (fun _ _ _ h => h) rfl ?_ hS ?_
     rotate_left
     ·(intro w' hSw; (try dsimp only at hSw); go_simp; try with_reducible rfl)
     try simp only [Act.put,Sp1,Sp2,Sp3,Sp4,Sp5,Sp6]
     refine AnyG.one (i:=0) (by kernel_rfl) rfl rfl ?_
     go_simp
     refine (reasons_any _).mono ?_
     rintro e1 y1 ⟨⟨rfl,k4⟩,hbr⟩
     refine Onward.on (hS.trans (hbr.mono hS.size)) (fun hS2 => ?_)
     clear hS
     have hS:=hS2
     clear hS2
     try simp only [Act.put,Sp1,Sp2,Sp3,Sp4,Sp5,Sp6]
     refine AnyG.takeC (i:=4) (v:=?_) rfl (by kernel_rfl) (fun _ _ _ h => h) rfl ?_ hS ?_
     rotate_left
     ·(intro w' hSw; (try dsimp only at hSw); go_simp; try with_reducible rfl)
     try simp only [Act.put,Sp1,Sp2,Sp3,Sp4,Sp5,Sp6]
     refine AnyG.one (i:=5) (by kernel_rfl) rfl rfl ?_
     have k5 : Bx y1 W1.heap.size 139 _:=k4
     obtain ⟨f0,f1,f2,f3,ff,fz⟩:=k5.four
     go_simp
     refine Onward.on hS (fun hS2 => ?_)
     clear hS
     have hS:=hS2
     clear hS2
     try simp only [Act.put,Sp1,Sp2,Sp3,Sp4,Sp5,Sp6]
     refine AnyG.takeC (i:=6) (v:=?_) rfl (by kernel_rfl) (fun _ _ _ h => h) rfl ?_ hS ?_
     rotate_left
     ·(intro w' hSw; (try dsimp only at hSw); go_simp; try with_reducible rfl)
     try simp only [Act.put,Sp1,Sp2,Sp3,Sp4,Sp5,Sp6]
     refine AnyG.done (by kernel_rfl) ?_ _
     have hS1 : Below W1.heap.size W1 y1:=hS
     clear hS
     go_simp
     replace k1:=k1.call hS1
     replace k2:=k2.call hS1
     replace k3:=k3.call hS1
     replace hAW:=hAW.call hS1
     have B1:=B0.trans (hS1.mono B0.size)
     obtain ⟨c0,c1,c2,c3,c4,cf,cz⟩:=k1.five
     obtain ⟨b0,b1,b2,bf,bz⟩:=k2.three
     obtain ⟨p0,p1,p2,p3,p4,p5,p6,p7,pf,pz⟩:=k3.xarr
     go_wp2_with (first | (go_at_call 105; rw [← xarr_def lo hi]; refine (isHeavy_any LA ln lc BA bn bc o p lo hi at_ _ HL.out HB.out hAW HO.out HX.out).mono ?_; rintro e w5 ⟨rfl,hbz⟩; rw [HV.out]) | fail)
     go_ret
     exact ⟨rfl,B1.trans (hbz.mono B1.size)⟩
   ·by_cases h4 : rs = 4
    ·subst h4
     by_cases hr : at_ < 0 ∨ (ln : Int) - 1 < at_
     ·have hck : ckBd o p lo hi ⟨4,at_,ct⟩ = 3:=by unfold ckBd; rw [if_neg (by simp),if_pos ⟨rfl,by dsimp only; rw [HL.out]; exact hr⟩]
      rw [hck]
      clear hck
      go_enter Try.func90,Try.ntmps90
      go_wp2_with (go_at_call 81; rw [HW.out]; refine (isWithin_no _ _ _ _ (by omega)).mono ?_; rintro e w1 ⟨rfl,hb1⟩)
      go_ret
      exact ⟨rfl,B0.trans (hb1.mono B0.size)⟩
     ·obtain ⟨m,rfl⟩ : ∃ m : Nat,at_ = m:=⟨at_.toNat,by omega⟩
      have hm : m < ln:=by omega
      clear hr
      have hwk : IntKind.i64.wrap 2 = 2:=IntWalk.i64_in _ (by omega)
      cases hv : isB o lo hi m
      ·have HV:=Lib.hid hv
       have hck : ckBd o p lo hi ⟨4,(m : Int),ct⟩ = 9:=by unfold ckBd; rw [if_neg (by simp),if_neg (by dsimp only; rw [HL.out]; omega),if_neg (by simp)]; simp [RightB,hv]
       rw [hck]
       clear hck hv
       go_enter Try.func90,Try.ntmps90
       go_upto_region 11 with (first | (go_at_call 81; rw [HW.out]; refine (isWithin_yes _ _ _ _ (by omega)).mono ?_; rintro e w1 ⟨rfl,hb1⟩) | fail)
       replace k1:=k1.call hb1
       replace k2:=k2.call hb1
       replace k3:=k3.call hb1
       replace hAW:=hAW.call hb1
       replace B0:=B0.trans (hb1.mono B0.size)
       clear hb1
       clear c0 c1 c2 c3 c4 cf cz b0 b1 b2 bf bz
       go_wp2_with fail
       refine AnyG.startC (by kernel_rfl) ?_
       refine AnyG.takeP (i:=1) (v:=?_) rfl (by kernel_rfl) (fun _ _ _ h => h) rfl ?_ ?_
       rotate_left
       ·(intro w'; go_simp; try with_reducible rfl)
       try simp only [Act.put,Sp1,Sp2,Sp3,Sp4,Sp5,Sp6]
       refine AnyG.enter (fun w' : World => Below w1.heap.size w1 w') (fun i => true) ?_
       have hS : (fun w' : World => Below w1.heap.size w1 w') (World.drew _):=(Below.refl _ _).drew
       refine AnyG.takeC (i:=2) (v:=?_) rfl (by kernel_rfl) (fun _ _ _ h => h) rfl ?_ hS ?_
       rotate_left
       ·(intro w' hSw; (try dsimp only at hSw); obtain ⟨b0,b1,b2,bf,bz⟩:=(k2.call hSw).three; go_simp; try with_reducible rfl)
       try simp only [Act.put,Sp1,Sp2,Sp3,Sp4,Sp5,Sp6]
       refine AnyG.takeC (i:=3) (v:=?_) rfl (by kernel_rfl) (fun _ _ _ h => h) rfl ?_ hS ?_
       rotate_left
       ·(intro w' hSw; (try dsimp only at hSw); go_simp; try with_reducible rfl)
       try simp only [Act.put,Sp1,Sp2,Sp3,Sp4,Sp5,Sp6]
       refine AnyG.one (i:=0) (by kernel_rfl) rfl rfl ?_
       go_simp
       refine (reasons_any _).mono ?_
       rintro e1 y1 ⟨⟨rfl,k4⟩,hbr⟩
       refine Onward.on (hS.trans (hbr.mono hS.size)) (fun hS2 => ?_)
       clear hS
       have hS:=hS2
       clear hS2
       try simp only [Act.put,Sp1,Sp2,Sp3,Sp4,Sp5,Sp6]
       refine AnyG.takeC (i:=4) (v:=?_) rfl (by kernel_rfl) (fun _ _ _ h => h) rfl ?_ hS ?_
       rotate_left
       ·(intro w' hSw; (try dsimp only at hSw); go_simp; try with_reducible rfl)
       try simp only [Act.put,Sp1,Sp2,Sp3,Sp4,Sp5,Sp6]
       refine AnyG.one (i:=5) (by kernel_rfl) rfl rfl ?_
       have k5 : Bx y1 w1.heap.size 139 _:=k4
       obtain ⟨f0,f1,f2,f3,ff,fz⟩:=k5.four
       go_simp
       refine Onward.on hS (fun hS2 => ?_)
       clear hS
       have hS:=hS2
       clear hS2
       try simp only [Act.put,Sp1,Sp2,Sp3,Sp4,Sp5,Sp6]
       refine AnyG.takeC (i:=6) (v:=?_) rfl (by kernel_rfl) (fun _ _ _ h => h) rfl ?_ hS ?_
       rotate_left
       ·(intro w' hSw; (try dsimp only at hSw); go_simp; try with_reducible rfl)
       try simp only [Act.put,Sp1,Sp2,Sp3,Sp4,Sp5,Sp6]
       refine AnyG.done (by kernel_rfl) ?_ _
       have hS1 : Below w1.heap.size w1 y1:=hS
       clear hS
       go_simp
       replace k1:=k1.call hS1
       replace k2:=k2.call hS1
       replace k3:=k3.call hS1
       replace hAW:=hAW.call hS1
       have B1:=B0.trans (hS1.mono B0.size)
       obtain ⟨c0,c1,c2,c3,c4,cf,cz⟩:=k1.five
       obtain ⟨b0,b1,b2,bf,bz⟩:=k2.three
       obtain ⟨p0,p1,p2,p3,p4,p5,p6,p7,pf,pz⟩:=k3.xarr
       go_wp2_with (first | (go_at_call 106; rw [← xarr_def lo hi]; refine (isBroken_any LA ln lc BA bn bc o p lo hi m _ HL.out HB.out hAW HO.out HX.out hm).mono ?_; rintro e w5 ⟨rfl,hbz⟩; rw [HV.out]) | fail)
       go_ret
       exact ⟨rfl,B1.trans (hbz.mono B1.size)⟩
      ·have HV:=Lib.hid hv
       have hck : ckBd o p lo hi ⟨4,(m : Int),ct⟩ = 0:=by unfold ckBd; rw [if_neg (by simp),if_neg (by dsimp only; rw [HL.out]; omega),if_neg (by simp)]; simp [RightB,hv]
       rw [hck]
       clear hck hv
       go_enter Try.func90,Try.ntmps90
       go_upto_region 11 with (first | (go_at_call 81; rw [HW.out]; refine (isWithin_yes _ _ _ _ (by omega)).mono ?_; rintro e w1 ⟨rfl,hb1⟩) | fail)
       replace k1:=k1.call hb1
       replace k2:=k2.call hb1
       replace k3:=k3.call hb1
       replace hAW:=hAW.call hb1
       replace B0:=B0.trans (hb1.mono B0.size)
       clear hb1
       clear c0 c1 c2 c3 c4 cf cz b0 b1 b2 bf bz
       go_wp2_with fail
       refine AnyG.startC (by kernel_rfl) ?_
       refine AnyG.takeP (i:=1) (v:=?_) rfl (by kernel_rfl) (fun _ _ _ h => h) rfl ?_ ?_
       rotate_left
       ·(intro w'; go_simp; try with_reducible rfl)
       try simp only [Act.put,Sp1,Sp2,Sp3,Sp4,Sp5,Sp6]
       refine AnyG.enter (fun w' : World => Below w1.heap.size w1 w') (fun i => true) ?_
       have hS : (fun w' : World => Below w1.heap.size w1 w') (World.drew _):=(Below.refl _ _).drew
       refine AnyG.takeC (i:=2) (v:=?_) rfl (by kernel_rfl) (fun _ _ _ h => h) rfl ?_ hS ?_
       rotate_left
       ·(intro w' hSw; (try dsimp only at hSw); obtain ⟨b0,b1,b2,bf,bz⟩:=(k2.call hSw).three; go_simp; try with_reducible rfl)
       try simp only [Act.put,Sp1,Sp2,Sp3,Sp4,Sp5,Sp6]
       refine AnyG.takeC (i:=3) (v:=?_) rfl (by kernel_rfl) (fun _ _ _ h => h) rfl ?_ hS ?_
       rotate_left
       ·(intro w' hSw; (try dsimp only at hSw); go_simp; try with_reducible rfl)
       try simp only [Act.put,Sp1,Sp2,Sp3,Sp4,Sp5,Sp6]
       refine AnyG.one (i:=0) (by kernel_rfl) rfl rfl ?_
       go_simp
       refine (reasons_any _).mono ?_
       rintro e1 y1 ⟨⟨rfl,k4⟩,hbr⟩
       refine Onward.on (hS.trans (hbr.mono hS.size)) (fun hS2 => ?_)
       clear hS
       have hS:=hS2
       clear hS2
       try simp only [Act.put,Sp1,Sp2,Sp3,Sp4,Sp5,Sp6]
       refine AnyG.takeC (i:=4) (v:=?_) rfl (by kernel_rfl) (fun _ _ _ h => h) rfl ?_ hS ?_
       rotate_left
       ·(intro w' hSw; (try dsimp only at hSw); go_simp; try with_reducible rfl)
       try simp only [Act.put,Sp1,Sp2,Sp3,Sp4,Sp5,Sp6]
       refine AnyG.one (i:=5) (by kernel_rfl) rfl rfl ?_
       have k5 : Bx y1 w1.heap.size 139 _:=k4
       obtain ⟨f0,f1,f2,f3,ff,fz⟩:=k5.four
       go_simp
       refine Onward.on hS (fun hS2 => ?_)
       clear hS
       have hS:=hS2
       clear hS2
       try simp only [Act.put,Sp1,Sp2,Sp3,Sp4,Sp5,Sp6]
       refine AnyG.takeC (i:=6) (v:=?_) rfl (by kernel_rfl) (fun _ _ _ h => h) rfl ?_ hS ?_
       rotate_left
       ·(intro w' hSw; (try dsimp only at hSw); go_simp; try with_reducible rfl)
       try simp only [Act.put,Sp1,Sp2,Sp3,Sp4,Sp5,Sp6]
       refine AnyG.done (by kernel_rfl) ?_ _
       have hS1 : Below w1.heap.size w1 y1:=hS
       clear hS
       go_simp
       replace k1:=k1.call hS1
       replace k2:=k2.call hS1
       replace k3:=k3.call hS1
       replace hAW:=hAW.call hS1
       have B1:=B0.trans (hS1.mono B0.size)
       obtain ⟨c0,c1,c2,c3,c4,cf,cz⟩:=k1.five
       obtain ⟨b0,b1,b2,bf,bz⟩:=k2.three
       obtain ⟨p0,p1,p2,p3,p4,p5,p6,p7,pf,pz⟩:=k3.xarr
       go_wp2_with (first | (go_at_call 106; rw [← xarr_def lo hi]; refine (isBroken_any LA ln lc BA bn bc o p lo hi m _ HL.out HB.out hAW HO.out HX.out hm).mono ?_; rintro e w5 ⟨rfl,hbz⟩; rw [HV.out]) | fail)
       go_ret
       exact ⟨rfl,B1.trans (hbz.mono B1.size)⟩
    ·by_cases h5 : rs = 5
     ·subst h5
      have hwk : IntKind.i64.wrap 3 = 3:=IntWalk.i64_in _ (by omega)
      cases hv : isD o p lo
      ·have HV:=Lib.hid hv
       have hck : ckBd o p lo hi ⟨5,at_,ct⟩ = 9:=by simp [ckBd,RightB,hv]
       rw [hck]
       clear hck hv
       go_enter Try.func90,Try.ntmps90
       go_upto_region 11 with fail
       rw [HW.out]
       clear c0 c1 c2 c3 c4 cf cz b0 b1 b2 bf bz
       go_wp2_with fail
       refine AnyG.startC (by kernel_rfl) ?_
       refine AnyG.takeP (i:=1) (v:=?_) rfl (by kernel_rfl) (fun _ _ _ h => h) rfl ?_ ?_
       rotate_left
       ·(intro w'; go_simp; try with_reducible rfl)
       try simp only [Act.put,Sp1,Sp2,Sp3,Sp4,Sp5,Sp6]
       refine AnyG.enter (fun w' : World => Below W1.heap.size W1 w') (fun i => true) ?_
       have hS : (fun w' : World => Below W1.heap.size W1 w') (World.drew _):=(Below.refl _ _).drew
       refine AnyG.takeC (i:=2) (v:=?_) rfl (by kernel_rfl) (fun _ _ _ h => h) rfl ?_ hS ?_
       rotate_left
       ·(intro w' hSw; (try dsimp only at hSw); obtain ⟨b0,b1,b2,bf,bz⟩:=(k2.call hSw).three; go_simp; try with_reducible rfl)
       try simp only [Act.put,Sp1,Sp2,Sp3,Sp4,Sp5,Sp6]
       refine AnyG.takeC (i:=3) (v:=?_) rfl (by kernel_rfl) (fun _ _ _ h => h) rfl ?_ hS ?_
       rotate_left
       ·(intro w' hSw; (try dsimp only at hSw); go_simp; try with_reducible rfl)
       try simp only [Act.put,Sp1,Sp2,Sp3,Sp4,Sp5,Sp6]
       refine AnyG.one (i:=0) (by kernel_rfl) rfl rfl ?_
       go_simp
       refine (reasons_any _).mono ?_
       rintro e1 y1 ⟨⟨rfl,k4⟩,hbr⟩
       refine Onward.on (hS.trans (hbr.mono hS.size)) (fun hS2 => ?_)
       clear hS
       have hS:=hS2
       clear hS2
       try simp only [Act.put,Sp1,Sp2,Sp3,Sp4,Sp5,Sp6]
       refine AnyG.takeC (i:=4) (v:=?_) rfl (by kernel_rfl) (fun _ _ _ h => h) rfl ?_ hS ?_
       rotate_left
       ·(intro w' hSw; (try dsimp only at hSw); go_simp; try with_reducible rfl)
       try simp only [Act.put,Sp1,Sp2,Sp3,Sp4,Sp5,Sp6]
       refine AnyG.one (i:=5) (by kernel_rfl) rfl rfl ?_
       have k5 : Bx y1 W1.heap.size 139 _:=k4
       obtain ⟨f0,f1,f2,f3,ff,fz⟩:=k5.four
       go_simp
       refine Onward.on hS (fun hS2 => ?_)
       clear hS
       have hS:=hS2
       clear hS2
       try simp only [Act.put,Sp1,Sp2,Sp3,Sp4,Sp5,Sp6]
       refine AnyG.takeC (i:=6) (v:=?_) rfl (by kernel_rfl) (fun _ _ _ h => h) rfl ?_ hS ?_
       rotate_left
       ·(intro w' hSw; (try dsimp only at hSw); go_simp; try with_reducible rfl)
       try simp only [Act.put,Sp1,Sp2,Sp3,Sp4,Sp5,Sp6]
       refine AnyG.done (by kernel_rfl) ?_ _
       have hS1 : Below W1.heap.size W1 y1:=hS
       clear hS
       go_simp
       replace k1:=k1.call hS1
       replace k2:=k2.call hS1
       replace k3:=k3.call hS1
       replace hAW:=hAW.call hS1
       have B1:=B0.trans (hS1.mono B0.size)
       obtain ⟨c0,c1,c2,c3,c4,cf,cz⟩:=k1.five
       obtain ⟨b0,b1,b2,bf,bz⟩:=k2.three
       obtain ⟨p0,p1,p2,p3,p4,p5,p6,p7,pf,pz⟩:=k3.xarr
       go_wp2_with (first | (go_at_call 107; rw [← xarr_def lo hi]; refine (isDear_any LA ln lc BA bn bc o p lo hi at_ _ HL.out HB.out hAW HO.out HX.out).mono ?_; rintro e w5 ⟨rfl,hbz⟩; rw [HV.out]) | fail)
       go_ret
       exact ⟨rfl,B1.trans (hbz.mono B1.size)⟩
      ·have HV:=Lib.hid hv
       have hck : ckBd o p lo hi ⟨5,at_,ct⟩ = 0:=by simp [ckBd,RightB,hv]
       rw [hck]
       clear hck hv
       go_enter Try.func90,Try.ntmps90
       go_upto_region 11 with fail
       rw [HW.out]
       clear c0 c1 c2 c3 c4 cf cz b0 b1 b2 bf bz
       go_wp2_with fail
       refine AnyG.startC (by kernel_rfl) ?_
       refine AnyG.takeP (i:=1) (v:=?_) rfl (by kernel_rfl) (fun _ _ _ h => h) rfl ?_ ?_
       rotate_left
       ·(intro w'; go_simp; try with_reducible rfl)
       try simp only [Act.put,Sp1,Sp2,Sp3,Sp4,Sp5,Sp6]
       refine AnyG.enter (fun w' : World => Below W1.heap.size W1 w') (fun i => true) ?_
       have hS : (fun w' : World => Below W1.heap.size W1 w') (World.drew _):=(Below.refl _ _).drew
       refine AnyG.takeC (i:=2) (v:=?_) rfl (by kernel_rfl) (fun _ _ _ h => h) rfl ?_ hS ?_
       rotate_left
       ·(intro w' hSw; (try dsimp only at hSw); obtain ⟨b0,b1,b2,bf,bz⟩:=(k2.call hSw).three; go_simp; try with_reducible rfl)
       try simp only [Act.put,Sp1,Sp2,Sp3,Sp4,Sp5,Sp6]
       refine AnyG.takeC (i:=3) (v:=?_) rfl (by kernel_rfl) (fun _ _ _ h => h) rfl ?_ hS ?_
       rotate_left
       ·(intro w' hSw; (try dsimp only at hSw); go_simp; try with_reducible rfl)
       try simp only [Act.put,Sp1,Sp2,Sp3,Sp4,Sp5,Sp6]
       refine AnyG.one (i:=0) (by kernel_rfl) rfl rfl ?_
       go_simp
       refine (reasons_any _).mono ?_
       rintro e1 y1 ⟨⟨rfl,k4⟩,hbr⟩
       refine Onward.on (hS.trans (hbr.mono hS.size)) (fun hS2 => ?_)
       clear hS
       have hS:=hS2
       clear hS2
       try simp only [Act.put,Sp1,Sp2,Sp3,Sp4,Sp5,Sp6]
       refine AnyG.takeC (i:=4) (v:=?_) rfl (by kernel_rfl) (fun _ _ _ h => h) rfl ?_ hS ?_
       rotate_left
       ·(intro w' hSw; (try dsimp only at hSw); go_simp; try with_reducible rfl)
       try simp only [Act.put,Sp1,Sp2,Sp3,Sp4,Sp5,Sp6]
       refine AnyG.one (i:=5) (by kernel_rfl) rfl rfl ?_
       have k5 : Bx y1 W1.heap.size 139 _:=k4
       obtain ⟨f0,f1,f2,f3,ff,fz⟩:=k5.four
       go_simp
       refine Onward.on hS (fun hS2 => ?_)
       clear hS
       have hS:=hS2
       clear hS2
       try simp only [Act.put,Sp1,Sp2,Sp3,Sp4,Sp5,Sp6]
       refine AnyG.takeC (i:=6) (v:=?_) rfl (by kernel_rfl) (fun _ _ _ h => h) rfl ?_ hS ?_
       rotate_left
       ·(intro w' hSw; (try dsimp only at hSw); go_simp; try with_reducible rfl)
       try simp only [Act.put,Sp1,Sp2,Sp3,Sp4,Sp5,Sp6]
       refine AnyG.done (by kernel_rfl) ?_ _
       have hS1 : Below W1.heap.size W1 y1:=hS
       clear hS
       go_simp
       replace k1:=k1.call hS1
       replace k2:=k2.call hS1
       replace k3:=k3.call hS1
       replace hAW:=hAW.call hS1
       have B1:=B0.trans (hS1.mono B0.size)
       obtain ⟨c0,c1,c2,c3,c4,cf,cz⟩:=k1.five
       obtain ⟨b0,b1,b2,bf,bz⟩:=k2.three
       obtain ⟨p0,p1,p2,p3,p4,p5,p6,p7,pf,pz⟩:=k3.xarr
       go_wp2_with (first | (go_at_call 107; rw [← xarr_def lo hi]; refine (isDear_any LA ln lc BA bn bc o p lo hi at_ _ HL.out HB.out hAW HO.out HX.out).mono ?_; rintro e w5 ⟨rfl,hbz⟩; rw [HV.out]) | fail)
       go_ret
       exact ⟨rfl,B1.trans (hbz.mono B1.size)⟩
     ·have hck : ckBd o p lo hi ⟨rs,at_,ct⟩ = 8:=by unfold ckBd; rw [if_neg h1,if_neg (fun h => h4 h.1),if_pos ⟨h2,h3,h4,h5⟩]
      rw [hck]
      clear hck
      have g1 : (rs == 1) = false:=by simp; exact h1
      have g2 : (rs == 2) = false:=by simp; exact h2
      have g3 : (rs == 3) = false:=by simp; exact h3
      have g4 : (rs == 4) = false:=by simp; exact h4
      have g5 : (rs == 5) = false:=by simp; exact h5
      clear h1 h2 h3 h4 h5
      go_enter Try.func90,Try.ntmps90
      go_wp2_with fail
      rw [HW.out]
      go_ret
      exact ⟨rfl,B0⟩
end Go.Proofs.Ytmemcopfeabcgaa
