/- swarfref06.right: whether a reason other than a cut is right. -/
import Derived.Test.YtmemcopfeabcgaaPm
set_option linter.unusedSimpArgs false
set_option linter.unusedVariables false
namespace Go.Proofs.Ytmemcopfeabcgaa
open Go Go.RowKit
set_option maxRecDepth 100000 in
set_option maxHeartbeats 8000000 in
theorem right_any (LA : Option Addr) (ln lc : Nat) (BA : Option Addr) (bn bc : Nat) (o : Od) (SA TA : Option Addr) (sc tc : Nat) (Lo Hi : List Int) (p : Int) (r : Bd) (w : World) (hl : o.lm.length = ln) (hb' : o.bs.length = bn) (hA : OrdAt w w.heap.size LA BA o) (ho : o.Ok) (hlo : Lo.length = bn) (hhi : Hi.length = bn) (hS : Sl w w.heap.size 1 SA (inr Lo)) (hT : Sl w w.heap.size 1 TA (inr Hi)) (hbx : BoxOk (lf Lo) (lf Hi)) (hr2 : 2 ≤ r.rs) (hr5 : r.rs ≤ 5) (hr4 : r.rs = 4 → 0 ≤ r.at_ ∧ r.at_ < ln) :
  Calls Try.prog 94 #[.agg #[.slice LA ln lc,.int .i64 o.le,.int .i64 o.mo,.slice BA bn bc],.agg #[.slice SA bn sc,.slice TA bn tc],.int .i64 p,.agg #[.int .i64 r.rs,.int .i64 r.at_,.int .i64 r.ct]] w fun e w' => e = .returned (.bool (RightB o p (lf Lo) (lf Hi) r)) ∧ Below w.heap.size w w':=by
 obtain ⟨rs,at_,ct⟩:=r
 dsimp only at hr2 hr5 hr4 ⊢
 have hbn4 : bn ≤ 4:=by rw [← hb']; exact ho.b2
 have hln3 : ln ≤ 3:=by rw [← hl]; exact ho.lm
 have k1:=((Bx.new w 27 #[.slice LA ln lc,.int .i64 o.le,.int .i64 o.mo,.slice BA bn bc]).alloc (.cells #[.slice SA bn sc,.slice TA bn tc] 119)).alloc (.cells #[.int .i64 rs,.int .i64 at_,.int .i64 ct] 69)
 have k2:=(Bx.at (w.alloc (.cells #[.slice LA ln lc,.int .i64 o.le,.int .i64 o.mo,.slice BA bn bc] 27)) 119 #[.slice SA bn sc,.slice TA bn tc] (n:=w.heap.size + 1) (by simp)).alloc (.cells #[.int .i64 rs,.int .i64 at_,.int .i64 ct] 69)
 have k3:=Bx.at ((w.alloc (.cells #[.slice LA ln lc,.int .i64 o.le,.int .i64 o.mo,.slice BA bn bc] 27)).alloc (.cells #[.slice SA bn sc,.slice TA bn tc] 119)) 69 #[.int .i64 rs,.int .i64 at_,.int .i64 ct] (n:=w.heap.size + 1 + 1) (by simp)
 have B0:=(((Below.refl w.heap.size w).alloc (Nat.le_refl _) (.cells #[.slice LA ln lc,.int .i64 o.le,.int .i64 o.mo,.slice BA bn bc] 27)).alloc (by simp) (.cells #[.slice SA bn sc,.slice TA bn tc] 119)).alloc (by simp; omega) (.cells #[.int .i64 rs,.int .i64 at_,.int .i64 ct] 69)
 have hA1:=hA.call B0
 have hS1:=hS.call B0
 have hT1:=hT.call B0
 obtain ⟨V,hV⟩ : ∃ V,((w.alloc (.cells #[.slice LA ln lc,.int .i64 o.le,.int .i64 o.mo,.slice BA bn bc] 27)).alloc (.cells #[.slice SA bn sc,.slice TA bn tc] 119)).alloc (.cells #[.int .i64 rs,.int .i64 at_,.int .i64 ct] 69) = V:=⟨_,rfl⟩
 rw [hV] at k1 k2 k3 B0 hA1 hS1 hT1
 have HB:=Lib.hid hb'
 have HLN:=Lib.hid hl
 have HO:=Lib.hid ho
 have HLO:=Lib.hid hlo
 have HHI:=Lib.hid hhi
 have HX:=Lib.hid hbx
 have HV:=Lib.hid hV
 clear hV hb' hl ho hlo hhi hA hS hT hbx
 obtain ⟨r0,r1,r2,rf,rz⟩:=k3.three
 have hc : rs = 2 ∨ rs = 3 ∨ rs = 4 ∨ rs = 5:=by omega
 rcases hc with rfl | rfl | rfl | rfl
 ·have e : RightB o p (lf Lo) (lf Hi) ⟨2,at_,ct⟩ = decide (kil o (lf Hi) bn < o.le):=by rw [← HB.out]; rfl
  rw [e]
  clear e hr2 hr5 hr4
  go_enter Try.func94,Try.ntmps94
  go_upto_region 1 with fail
  rw [HV.out]
  go_wp2_with fail
  refine AnyG.startC (by kernel_rfl) ?_
  refine AnyG.takeP (i:=1) (v:=?_) rfl (by kernel_rfl) (fun _ _ _ h => h) rfl ?_ ?_
  rotate_left
  ·(intro w'; go_simp; try with_reducible rfl)
  try simp only [Act.put,Sp1,Sp2,Sp3,Sp4,Sp5,Sp6]
  refine AnyG.takeP (i:=4) (v:=?_) rfl (by kernel_rfl) (fun _ _ _ h => h) rfl ?_ ?_
  rotate_left
  ·(intro w'; go_simp; try with_reducible rfl)
  try simp only [Act.put,Sp1,Sp2,Sp3,Sp4,Sp5,Sp6]
  refine AnyG.enter (fun w' : World => Below V.heap.size V w') (fun i => true) ?_
  have hS : (fun w' : World => Below V.heap.size V w') (World.drew _):=(Below.refl _ _).drew
  refine AnyG.takeC (i:=0) (v:=?_) rfl (by kernel_rfl) (fun _ _ _ h => h) rfl ?_ hS ?_
  rotate_left
  ·(intro w' hSw; (try dsimp only at hSw); obtain ⟨l0,l1,l2,l3,lf2,lz⟩:=(k1.call hSw).four; go_simp; try with_reducible rfl)
  try simp only [Act.put,Sp1,Sp2,Sp3,Sp4,Sp5,Sp6]
  refine AnyG.takeC (i:=2) (v:=?_) rfl (by kernel_rfl) (fun _ _ _ h => h) rfl ?_ hS ?_
  rotate_left
  ·(intro w' hSw; (try dsimp only at hSw); obtain ⟨x0,x1,xf,xz⟩:=(k2.call hSw).two; go_simp; try with_reducible rfl)
  try simp only [Act.put,Sp1,Sp2,Sp3,Sp4,Sp5,Sp6]
  refine AnyG.takeC (i:=5) (v:=?_) rfl (by kernel_rfl) (fun _ _ _ h => h) rfl ?_ hS ?_
  rotate_left
  ·(intro w' hSw; (try dsimp only at hSw); obtain ⟨l0,l1,l2,l3,lf2,lz⟩:=(k1.call hSw).four; go_simp; try with_reducible rfl)
  try simp only [Act.put,Sp1,Sp2,Sp3,Sp4,Sp5,Sp6]
  refine AnyG.one (i:=3) (by kernel_rfl) rfl rfl ?_
  go_simp
  refine (refKilos_any LA ln lc BA bn bc o TA bn tc Hi _ HB.out (hA1.call hS) HO.out HHI.out (Nat.le_refl _) (hT1.call hS) HX.out.six2).mono ?_
  rintro e3 y3 ⟨rfl,hb3⟩
  refine Onward.on (hS.trans (hb3.mono hS.size)) (fun hS2 => ?_)
  clear hS
  have hS:=hS2
  clear hS2
  try simp only [Act.put,Sp1,Sp2,Sp3,Sp4,Sp5,Sp6]
  refine AnyG.takeC (i:=6) (v:=?_) rfl (by kernel_rfl) (fun _ _ _ h => h) rfl ?_ hS ?_
  rotate_left
  ·(intro w' hSw; (try dsimp only at hSw); go_simp; try with_reducible rfl)
  try simp only [Act.put,Sp1,Sp2,Sp3,Sp4,Sp5,Sp6]
  refine AnyG.takeC (i:=7) (v:=?_) rfl (by kernel_rfl) (fun _ _ _ h => h) rfl ?_ hS ?_
  rotate_left
  ·(intro w' hSw; (try dsimp only at hSw); go_simp; try with_reducible rfl)
  try simp only [Act.put,Sp1,Sp2,Sp3,Sp4,Sp5,Sp6]
  refine AnyG.done (by kernel_rfl) ?_ _
  go_simp
  go_wp2_with fail
  go_ret
  exact ⟨by simp,B0.trans (hS.mono B0.size)⟩
 ·have e : RightB o p (lf Lo) (lf Hi) ⟨3,at_,ct⟩ = decide (o.mo < kil o (lf Lo) bn):=by rw [← HB.out]; rfl
  rw [e]
  clear e hr2 hr5 hr4
  go_enter Try.func94,Try.ntmps94
  go_upto_region 1 with fail
  rw [HV.out]
  go_wp2_with fail
  refine AnyG.startC (by kernel_rfl) ?_
  refine AnyG.takeP (i:=1) (v:=?_) rfl (by kernel_rfl) (fun _ _ _ h => h) rfl ?_ ?_
  rotate_left
  ·(intro w'; go_simp; try with_reducible rfl)
  try simp only [Act.put,Sp1,Sp2,Sp3,Sp4,Sp5,Sp6]
  refine AnyG.takeP (i:=4) (v:=?_) rfl (by kernel_rfl) (fun _ _ _ h => h) rfl ?_ ?_
  rotate_left
  ·(intro w'; go_simp; try with_reducible rfl)
  try simp only [Act.put,Sp1,Sp2,Sp3,Sp4,Sp5,Sp6]
  refine AnyG.enter (fun w' : World => Below V.heap.size V w') (fun i => true) ?_
  have hS : (fun w' : World => Below V.heap.size V w') (World.drew _):=(Below.refl _ _).drew
  refine AnyG.takeC (i:=0) (v:=?_) rfl (by kernel_rfl) (fun _ _ _ h => h) rfl ?_ hS ?_
  rotate_left
  ·(intro w' hSw; (try dsimp only at hSw); obtain ⟨l0,l1,l2,l3,lf2,lz⟩:=(k1.call hSw).four; go_simp; try with_reducible rfl)
  try simp only [Act.put,Sp1,Sp2,Sp3,Sp4,Sp5,Sp6]
  refine AnyG.takeC (i:=2) (v:=?_) rfl (by kernel_rfl) (fun _ _ _ h => h) rfl ?_ hS ?_
  rotate_left
  ·(intro w' hSw; (try dsimp only at hSw); obtain ⟨x0,x1,xf,xz⟩:=(k2.call hSw).two; go_simp; try with_reducible rfl)
  try simp only [Act.put,Sp1,Sp2,Sp3,Sp4,Sp5,Sp6]
  refine AnyG.takeC (i:=5) (v:=?_) rfl (by kernel_rfl) (fun _ _ _ h => h) rfl ?_ hS ?_
  rotate_left
  ·(intro w' hSw; (try dsimp only at hSw); obtain ⟨l0,l1,l2,l3,lf2,lz⟩:=(k1.call hSw).four; go_simp; try with_reducible rfl)
  try simp only [Act.put,Sp1,Sp2,Sp3,Sp4,Sp5,Sp6]
  refine AnyG.one (i:=3) (by kernel_rfl) rfl rfl ?_
  go_simp
  refine (refKilos_any LA ln lc BA bn bc o SA bn sc Lo _ HB.out (hA1.call hS) HO.out HLO.out (Nat.le_refl _) (hS1.call hS) HX.out.six).mono ?_
  rintro e3 y3 ⟨rfl,hb3⟩
  refine Onward.on (hS.trans (hb3.mono hS.size)) (fun hS2 => ?_)
  clear hS
  have hS:=hS2
  clear hS2
  try simp only [Act.put,Sp1,Sp2,Sp3,Sp4,Sp5,Sp6]
  refine AnyG.takeC (i:=6) (v:=?_) rfl (by kernel_rfl) (fun _ _ _ h => h) rfl ?_ hS ?_
  rotate_left
  ·(intro w' hSw; (try dsimp only at hSw); go_simp; try with_reducible rfl)
  try simp only [Act.put,Sp1,Sp2,Sp3,Sp4,Sp5,Sp6]
  refine AnyG.takeC (i:=7) (v:=?_) rfl (by kernel_rfl) (fun _ _ _ h => h) rfl ?_ hS ?_
  rotate_left
  ·(intro w' hSw; (try dsimp only at hSw); go_simp; try with_reducible rfl)
  try simp only [Act.put,Sp1,Sp2,Sp3,Sp4,Sp5,Sp6]
  refine AnyG.done (by kernel_rfl) ?_ _
  go_simp
  go_wp2_with fail
  go_ret
  exact ⟨by simp,B0.trans (hS.mono B0.size)⟩
 ·obtain ⟨h0,h1⟩:=hr4 rfl
  obtain ⟨j,rfl⟩ : ∃ j : Nat,at_ = j:=⟨at_.toNat,by omega⟩
  have hjn : j < ln:=by omega
  have hjl : j < o.lm.length:=by rw [HLN.out]; exact hjn
  have e : RightB o p (lf Lo) (lf Hi) ⟨4,(j : Int),ct⟩ = decide (0 < brk o (lf Lo) (lf Hi) j bn):=by
   rw [← HB.out]; simp [RightB,isB]
  rw [e]
  clear e hr2 hr5 hr4 h0 h1
  obtain ⟨la,rfl,hla,hlj⟩:=inr_at hA1.lm hjl
  rw [Od.li_eq hjl] at hlj
  have hlb:=HO.out.li (j:=j)
  obtain ⟨lj,hljv⟩ : ∃ x,o.li j = x:=⟨_,rfl⟩
  rw [hljv] at hlj hlb
  have HLJ:=Lib.hid hljv
  clear hljv
  go_enter Try.func94,Try.ntmps94
  go_upto_region 8 with fail
  rw [HV.out]
  clear r0 r1 r2 rf rz
  go_wp2_with fail
  go_loopw [9,10,11,12] (fun s v _ _ wr => ∃ (i : Nat),v = .int .i64 i ∧ i ≤ bn ∧ s = .int .i64 (brk o (lf Lo) (lf Hi) j i) ∧ Below V.heap.size V wr) (fun _ v _ _ _ => bn - (intOf v).toNat)
  case atStart => exact ⟨0,rfl,by omega,rfl,Below.refl _ _⟩
  case round =>
   obtain ⟨i,rfl,hi,rfl,hBr⟩:=hrel
   by_cases hin : i < bn
   ·have hio : i < o.bs.length:=by rw [HB.out]; omega
    have hil : i < Lo.length:=by rw [HLO.out]; exact hin
    have hit : i < Hi.length:=by rw [HHI.out]; exact hin
    obtain ⟨sa,rfl,hsa,hx⟩:=inr_at hS1 hil
    obtain ⟨ta,rfl,hta,hy⟩:=inr_at hT1 hit
    rw [lf_at hil] at hx
    rw [lf_at hit] at hy
    obtain ⟨ba,G,gc,rfl,hba,p0,p1,p2,p3,hgs⟩:=hA1.bs.at_ hio
    have hbo:=HO.out.bn hio
    rw [HLN.out] at hbo
    rw [Od.bn_eq hio] at p0 p1 p2 p3 hgs
    rw [hbo.len] at p0
    obtain ⟨ga,rfl,hga,g0,g1⟩:=gnr_at hgs (by rw [hbo.len]; exact hjn)
    rw [Bn.g_eq (by rw [hbo.len]; exact hjn)] at g0 g1
    dsimp only at g0 g1
    have hgj:=hbo.gj j
    have hw1:=hbo.w1
    have hw2:=hbo.w2
    have hbk:=brk_ref HO.out HX.out (i:=i) (j:=j) hio
    have hbs:=brk_bd HO.out HX.out (j:=j) (k:=i) (by omega)
    have hbn:=brk_bd HO.out HX.out (j:=j) (k:=i + 1) (by omega)
    have hxb:=x_bd HO.out HX.out.six hio j
    have hyb:=x_bd HO.out HX.out.six2 hio j
    have hxw:=w_bd HO.out HX.out.six hio
    have hyw:=w_bd HO.out HX.out.six2 hio
    have hnx : brk o (lf Lo) (lf Hi) j (i + 1) = brk o (lf Lo) (lf Hi) j i + min (lf Lo i * ovr o i j) (lf Hi i * ovr o i j):=rfl
    rw [hbk] at hnx
    rw [HLJ.out] at hnx hxb hyb
    have hiw : IntKind.i64.wrap ((i : Int) + 1) = (i : Int) + 1:=IntWalk.i64_in _ (by omega)
    obtain ⟨sv,hsv⟩ : ∃ x,brk o (lf Lo) (lf Hi) j i = x:=⟨_,rfl⟩
    rw [hsv] at hnx hbs ⊢
    obtain ⟨x,hxv⟩ : ∃ x,lf Lo i = x:=⟨_,rfl⟩
    obtain ⟨y,hyv⟩ : ∃ x,lf Hi i = x:=⟨_,rfl⟩
    obtain ⟨wt,hwt⟩ : ∃ x,(o.bn i).w = x:=⟨_,rfl⟩
    obtain ⟨a2,ha2⟩ : ∃ x,(o.bn i).g2 j = x:=⟨_,rfl⟩
    rw [hxv] at hx hnx hxb hxw
    rw [hyv] at hy hnx hyb hyw
    rw [hwt] at hnx hxb hyb hxw hyw p1
    rw [ha2] at g1 hgj hnx hxb hyb
    obtain ⟨D,hD⟩ : ∃ D,a2 - lj = D:=⟨_,rfl⟩
    have hDw : IntKind.i64.wrap (a2 - lj) = D:=by rw [IntWalk.i64_in _ (by omega)]; exact hD
    rw [hD] at hnx hxb hyb
    have HD:=Lib.hid hD
    clear hD hsv hxv hyv hwt ha2 hbo hbk hw1 hw2
    by_cases hneg : D < 0
    ·rw [if_pos hneg] at hnx
     have dn : decide (D < 0) = true:=decide_eq_true hneg
     have z : (y,D) = (y,D):=rfl
     obtain ⟨P,hP⟩ : ∃ P,y * wt = P:=⟨_,rfl⟩
     rw [hP] at hnx hyb hyw
     have hPw : IntKind.i64.wrap (y * wt) = P:=by rw [hP]; exact IntWalk.i64_in _ (by omega)
     obtain ⟨E,hE⟩ : ∃ E,P * D = E:=⟨_,rfl⟩
     rw [hE] at hnx hyb
     have hEw : IntKind.i64.wrap (P * D) = E:=by rw [hE]; exact IntWalk.i64_in _ (by omega)
     have hsw : IntKind.i64.wrap (sv + E) = sv + E:=IntWalk.i64_in _ (by omega)
     have HNX:=Lib.hid hnx
     clear z hneg hnx hP hE hbn hxb hxw hyb hyw
     obtain ⟨l0,l1,l2,l3,lf2,lz⟩:=(k1.call hBr).four
     go_wp2_with fail
     clear l0 l1 l2 l3 lf2 lz
     refine AnyG.startC (by kernel_rfl) ?_
     refine AnyG.takeP (i:=0) (v:=?_) rfl (by kernel_rfl) (fun _ _ _ h => h) rfl ?_ ?_
     rotate_left
     ·(intro w'; go_simp; try with_reducible rfl)
     try simp only [Act.put,Sp1,Sp2,Sp3,Sp4,Sp5,Sp6]
     refine AnyG.takeP (i:=2) (v:=?_) rfl (by kernel_rfl) (fun _ _ _ h => h) rfl ?_ ?_
     rotate_left
     ·(intro w'; go_simp; try with_reducible rfl)
     try simp only [Act.put,Sp1,Sp2,Sp3,Sp4,Sp5,Sp6]
     refine AnyG.takeP (i:=6) (v:=?_) rfl (by kernel_rfl) (fun _ _ _ h => h) rfl ?_ ?_
     rotate_left
     ·(intro w'; go_simp; try with_reducible rfl)
     try simp only [Act.put,Sp1,Sp2,Sp3,Sp4,Sp5,Sp6]
     refine AnyG.takeP (i:=11) (v:=?_) rfl (by kernel_rfl) (fun _ _ _ h => h) rfl ?_ ?_
     rotate_left
     ·(intro w'; go_simp; try with_reducible rfl)
     try simp only [Act.put,Sp1,Sp2,Sp3,Sp4,Sp5,Sp6]
     refine AnyG.takeP (i:=13) (v:=?_) rfl (by kernel_rfl) (fun _ _ _ h => h) rfl ?_ ?_
     rotate_left
     ·(intro w'; go_simp; try with_reducible rfl)
     try simp only [Act.put,Sp1,Sp2,Sp3,Sp4,Sp5,Sp6]
     refine AnyG.enter (fun w' : World => Below V.heap.size V w') (fun i => true) ?_
     have hS : (fun w' : World => Below V.heap.size V w') (World.drew _):=hBr.drew
     refine AnyG.takeC (i:=1) (v:=?_) rfl (by kernel_rfl) (fun _ _ _ h => h) rfl ?_ hS ?_
     rotate_left
     ·(intro w' hSw; (try dsimp only at hSw); obtain ⟨l0,l1,l2,l3,lf2,lz⟩:=(k1.call hSw).four; go_simp; try with_reducible rfl)
     try simp only [Act.put,Sp1,Sp2,Sp3,Sp4,Sp5,Sp6]
     refine AnyG.takeC (i:=3) (v:=?_) rfl (by kernel_rfl) (fun _ _ _ h => h) rfl ?_ hS ?_
     rotate_left
     ·(intro w' hSw; (try dsimp only at hSw); go_simp; try with_reducible rfl)
     try simp only [Act.put,Sp1,Sp2,Sp3,Sp4,Sp5,Sp6]
     refine AnyG.takeC (i:=4) (v:=?_) rfl (by kernel_rfl) (fun _ _ _ h => h) rfl ?_ hS ?_
     rotate_left
     ·(intro w' hSw; (try dsimp only at hSw); go_simp; try with_reducible rfl)
     try simp only [Act.put,Sp1,Sp2,Sp3,Sp4,Sp5,Sp6]
     refine AnyG.takeC (i:=5) (v:=?_) rfl (by kernel_rfl) (fun _ _ _ h => h) rfl ?_ hS ?_
     rotate_left
     ·(intro w' hSw; (try dsimp only at hSw); have q:=cellC hSw p0; go_simp; try with_reducible rfl)
     try simp only [Act.put,Sp1,Sp2,Sp3,Sp4,Sp5,Sp6]
     refine AnyG.takeC (i:=7) (v:=?_) rfl (by kernel_rfl) (fun _ _ _ h => h) rfl ?_ hS ?_
     rotate_left
     ·(intro w' hSw; (try dsimp only at hSw); obtain ⟨r0,r1,r2,rf,rz⟩:=(k3.call hSw).three; go_simp; try with_reducible rfl)
     try simp only [Act.put,Sp1,Sp2,Sp3,Sp4,Sp5,Sp6]
     refine AnyG.takeC (i:=8) (v:=?_) rfl (by kernel_rfl) (fun _ _ _ h => h) rfl ?_ hS ?_
     rotate_left
     ·(intro w' hSw; (try dsimp only at hSw); go_simp; try with_reducible rfl)
     try simp only [Act.put,Sp1,Sp2,Sp3,Sp4,Sp5,Sp6]
     refine AnyG.takeC (i:=9) (v:=?_) rfl (by kernel_rfl) (fun _ _ _ h => h) rfl ?_ hS ?_
     rotate_left
     ·(intro w' hSw; (try dsimp only at hSw); go_simp; try with_reducible rfl)
     try simp only [Act.put,Sp1,Sp2,Sp3,Sp4,Sp5,Sp6]
     refine AnyG.takeC (i:=10) (v:=?_) rfl (by kernel_rfl) (fun _ _ _ h => h) rfl ?_ hS ?_
     rotate_left
     ·(intro w' hSw; (try dsimp only at hSw); have q:=cellC hSw g1; go_simp; try with_reducible rfl)
     try simp only [Act.put,Sp1,Sp2,Sp3,Sp4,Sp5,Sp6]
     refine AnyG.takeC (i:=12) (v:=?_) rfl (by kernel_rfl) (fun _ _ _ h => h) rfl ?_ hS ?_
     rotate_left
     ·(intro w' hSw; (try dsimp only at hSw); obtain ⟨l0,l1,l2,l3,lf2,lz⟩:=(k1.call hSw).four; go_simp; try with_reducible rfl)
     try simp only [Act.put,Sp1,Sp2,Sp3,Sp4,Sp5,Sp6]
     refine AnyG.takeC (i:=14) (v:=?_) rfl (by kernel_rfl) (fun _ _ _ h => h) rfl ?_ hS ?_
     rotate_left
     ·(intro w' hSw; (try dsimp only at hSw); obtain ⟨r0,r1,r2,rf,rz⟩:=(k3.call hSw).three; go_simp; try with_reducible rfl)
     try simp only [Act.put,Sp1,Sp2,Sp3,Sp4,Sp5,Sp6]
     refine AnyG.takeC (i:=15) (v:=?_) rfl (by kernel_rfl) (fun _ _ _ h => h) rfl ?_ hS ?_
     rotate_left
     ·(intro w' hSw; (try dsimp only at hSw); go_simp; try with_reducible rfl)
     try simp only [Act.put,Sp1,Sp2,Sp3,Sp4,Sp5,Sp6]
     refine AnyG.takeC (i:=16) (v:=?_) rfl (by kernel_rfl) (fun _ _ _ h => h) rfl ?_ hS ?_
     rotate_left
     ·(intro w' hSw; (try dsimp only at hSw); have q:=cellC hSw hlj; go_simp; try with_reducible rfl)
     try simp only [Act.put,Sp1,Sp2,Sp3,Sp4,Sp5,Sp6]
     refine AnyG.takeC (i:=17) (v:=?_) rfl (by kernel_rfl) (fun _ _ _ h => h) rfl ?_ hS ?_
     rotate_left
     ·(intro w' hSw; (try dsimp only at hSw); go_simp; try with_reducible rfl)
     try simp only [Act.put,Sp1,Sp2,Sp3,Sp4,Sp5,Sp6]
     refine AnyG.takeC (i:=18) (v:=?_) rfl (by kernel_rfl) (fun _ _ _ h => h) rfl ?_ hS ?_
     rotate_left
     ·(intro w' hSw; (try dsimp only at hSw); go_simp; try with_reducible rfl)
     try simp only [Act.put,Sp1,Sp2,Sp3,Sp4,Sp5,Sp6]
     refine AnyG.done (by kernel_rfl) ?_ _
     go_simp
     obtain ⟨l0,l1,l2,l3,lf2,lz⟩:=(k1.call hBr.drew).four
     obtain ⟨x0,x1,xf,xz⟩:=(k2.call hBr.drew).two
     have qx:=cellC hBr.drew hx
     have qy:=cellC hBr.drew hy
     have qp:=cellC hBr.drew p1
     go_wp2_with fail
     go_roundw
     case rel => exact ⟨i + 1,by go_num,by omega,by rw [HNX.out],hBr.drew⟩
     case measure => simp [intOf]; omega
    ·rw [if_neg hneg] at hnx
     have dn : decide (D < 0) = false:=decide_eq_false hneg
     obtain ⟨P,hP⟩ : ∃ P,x * wt = P:=⟨_,rfl⟩
     rw [hP] at hnx hxb hxw
     have hPw : IntKind.i64.wrap (x * wt) = P:=by rw [hP]; exact IntWalk.i64_in _ (by omega)
     obtain ⟨E,hE⟩ : ∃ E,P * D = E:=⟨_,rfl⟩
     rw [hE] at hnx hxb
     have hEw : IntKind.i64.wrap (P * D) = E:=by rw [hE]; exact IntWalk.i64_in _ (by omega)
     have hsw : IntKind.i64.wrap (sv + E) = sv + E:=IntWalk.i64_in _ (by omega)
     have HNX:=Lib.hid hnx
     clear hneg hnx hP hE hbn hxb hxw hyb hyw
     obtain ⟨l0,l1,l2,l3,lf2,lz⟩:=(k1.call hBr).four
     go_wp2_with fail
     clear l0 l1 l2 l3 lf2 lz
     refine AnyG.startC (by kernel_rfl) ?_
     refine AnyG.takeP (i:=0) (v:=?_) rfl (by kernel_rfl) (fun _ _ _ h => h) rfl ?_ ?_
     rotate_left
     ·(intro w'; go_simp; try with_reducible rfl)
     try simp only [Act.put,Sp1,Sp2,Sp3,Sp4,Sp5,Sp6]
     refine AnyG.takeP (i:=2) (v:=?_) rfl (by kernel_rfl) (fun _ _ _ h => h) rfl ?_ ?_
     rotate_left
     ·(intro w'; go_simp; try with_reducible rfl)
     try simp only [Act.put,Sp1,Sp2,Sp3,Sp4,Sp5,Sp6]
     refine AnyG.takeP (i:=6) (v:=?_) rfl (by kernel_rfl) (fun _ _ _ h => h) rfl ?_ ?_
     rotate_left
     ·(intro w'; go_simp; try with_reducible rfl)
     try simp only [Act.put,Sp1,Sp2,Sp3,Sp4,Sp5,Sp6]
     refine AnyG.takeP (i:=11) (v:=?_) rfl (by kernel_rfl) (fun _ _ _ h => h) rfl ?_ ?_
     rotate_left
     ·(intro w'; go_simp; try with_reducible rfl)
     try simp only [Act.put,Sp1,Sp2,Sp3,Sp4,Sp5,Sp6]
     refine AnyG.takeP (i:=13) (v:=?_) rfl (by kernel_rfl) (fun _ _ _ h => h) rfl ?_ ?_
     rotate_left
     ·(intro w'; go_simp; try with_reducible rfl)
     try simp only [Act.put,Sp1,Sp2,Sp3,Sp4,Sp5,Sp6]
     refine AnyG.enter (fun w' : World => Below V.heap.size V w') (fun i => true) ?_
     have hS : (fun w' : World => Below V.heap.size V w') (World.drew _):=hBr.drew
     refine AnyG.takeC (i:=1) (v:=?_) rfl (by kernel_rfl) (fun _ _ _ h => h) rfl ?_ hS ?_
     rotate_left
     ·(intro w' hSw; (try dsimp only at hSw); obtain ⟨l0,l1,l2,l3,lf2,lz⟩:=(k1.call hSw).four; go_simp; try with_reducible rfl)
     try simp only [Act.put,Sp1,Sp2,Sp3,Sp4,Sp5,Sp6]
     refine AnyG.takeC (i:=3) (v:=?_) rfl (by kernel_rfl) (fun _ _ _ h => h) rfl ?_ hS ?_
     rotate_left
     ·(intro w' hSw; (try dsimp only at hSw); go_simp; try with_reducible rfl)
     try simp only [Act.put,Sp1,Sp2,Sp3,Sp4,Sp5,Sp6]
     refine AnyG.takeC (i:=4) (v:=?_) rfl (by kernel_rfl) (fun _ _ _ h => h) rfl ?_ hS ?_
     rotate_left
     ·(intro w' hSw; (try dsimp only at hSw); go_simp; try with_reducible rfl)
     try simp only [Act.put,Sp1,Sp2,Sp3,Sp4,Sp5,Sp6]
     refine AnyG.takeC (i:=5) (v:=?_) rfl (by kernel_rfl) (fun _ _ _ h => h) rfl ?_ hS ?_
     rotate_left
     ·(intro w' hSw; (try dsimp only at hSw); have q:=cellC hSw p0; go_simp; try with_reducible rfl)
     try simp only [Act.put,Sp1,Sp2,Sp3,Sp4,Sp5,Sp6]
     refine AnyG.takeC (i:=7) (v:=?_) rfl (by kernel_rfl) (fun _ _ _ h => h) rfl ?_ hS ?_
     rotate_left
     ·(intro w' hSw; (try dsimp only at hSw); obtain ⟨r0,r1,r2,rf,rz⟩:=(k3.call hSw).three; go_simp; try with_reducible rfl)
     try simp only [Act.put,Sp1,Sp2,Sp3,Sp4,Sp5,Sp6]
     refine AnyG.takeC (i:=8) (v:=?_) rfl (by kernel_rfl) (fun _ _ _ h => h) rfl ?_ hS ?_
     rotate_left
     ·(intro w' hSw; (try dsimp only at hSw); go_simp; try with_reducible rfl)
     try simp only [Act.put,Sp1,Sp2,Sp3,Sp4,Sp5,Sp6]
     refine AnyG.takeC (i:=9) (v:=?_) rfl (by kernel_rfl) (fun _ _ _ h => h) rfl ?_ hS ?_
     rotate_left
     ·(intro w' hSw; (try dsimp only at hSw); go_simp; try with_reducible rfl)
     try simp only [Act.put,Sp1,Sp2,Sp3,Sp4,Sp5,Sp6]
     refine AnyG.takeC (i:=10) (v:=?_) rfl (by kernel_rfl) (fun _ _ _ h => h) rfl ?_ hS ?_
     rotate_left
     ·(intro w' hSw; (try dsimp only at hSw); have q:=cellC hSw g1; go_simp; try with_reducible rfl)
     try simp only [Act.put,Sp1,Sp2,Sp3,Sp4,Sp5,Sp6]
     refine AnyG.takeC (i:=12) (v:=?_) rfl (by kernel_rfl) (fun _ _ _ h => h) rfl ?_ hS ?_
     rotate_left
     ·(intro w' hSw; (try dsimp only at hSw); obtain ⟨l0,l1,l2,l3,lf2,lz⟩:=(k1.call hSw).four; go_simp; try with_reducible rfl)
     try simp only [Act.put,Sp1,Sp2,Sp3,Sp4,Sp5,Sp6]
     refine AnyG.takeC (i:=14) (v:=?_) rfl (by kernel_rfl) (fun _ _ _ h => h) rfl ?_ hS ?_
     rotate_left
     ·(intro w' hSw; (try dsimp only at hSw); obtain ⟨r0,r1,r2,rf,rz⟩:=(k3.call hSw).three; go_simp; try with_reducible rfl)
     try simp only [Act.put,Sp1,Sp2,Sp3,Sp4,Sp5,Sp6]
     refine AnyG.takeC (i:=15) (v:=?_) rfl (by kernel_rfl) (fun _ _ _ h => h) rfl ?_ hS ?_
     rotate_left
     ·(intro w' hSw; (try dsimp only at hSw); go_simp; try with_reducible rfl)
     try simp only [Act.put,Sp1,Sp2,Sp3,Sp4,Sp5,Sp6]
     refine AnyG.takeC (i:=16) (v:=?_) rfl (by kernel_rfl) (fun _ _ _ h => h) rfl ?_ hS ?_
     rotate_left
     ·(intro w' hSw; (try dsimp only at hSw); have q:=cellC hSw hlj; go_simp; try with_reducible rfl)
     try simp only [Act.put,Sp1,Sp2,Sp3,Sp4,Sp5,Sp6]
     refine AnyG.takeC (i:=17) (v:=?_) rfl (by kernel_rfl) (fun _ _ _ h => h) rfl ?_ hS ?_
     rotate_left
     ·(intro w' hSw; (try dsimp only at hSw); go_simp; try with_reducible rfl)
     try simp only [Act.put,Sp1,Sp2,Sp3,Sp4,Sp5,Sp6]
     refine AnyG.takeC (i:=18) (v:=?_) rfl (by kernel_rfl) (fun _ _ _ h => h) rfl ?_ hS ?_
     rotate_left
     ·(intro w' hSw; (try dsimp only at hSw); go_simp; try with_reducible rfl)
     try simp only [Act.put,Sp1,Sp2,Sp3,Sp4,Sp5,Sp6]
     refine AnyG.done (by kernel_rfl) ?_ _
     go_simp
     obtain ⟨l0,l1,l2,l3,lf2,lz⟩:=(k1.call hBr.drew).four
     obtain ⟨x0,x1,xf,xz⟩:=(k2.call hBr.drew).two
     have qx:=cellC hBr.drew hx
     have qy:=cellC hBr.drew hy
     have qp:=cellC hBr.drew p1
     go_wp2_with fail
     go_roundw
     case rel => exact ⟨i + 1,by go_num,by omega,by rw [HNX.out],hBr.drew⟩
     case measure => simp [intOf]; omega
   ·obtain rfl : i = bn:=by omega
    obtain ⟨l0,l1,l2,l3,lf',lz⟩:=(k1.call hBr).four
    go_wp2_with fail
    go_ret
    exact ⟨rfl,B0.trans (hBr.mono B0.size)⟩
 ·have e : RightB o p (lf Lo) (lf Hi) ⟨5,at_,ct⟩ = decide (p ≤ cst o (lf Lo) bn):=by rw [← HB.out]; rfl
  rw [e]
  clear e hr2 hr5 hr4
  obtain ⟨l0,l1,l2,l3,lf',lz⟩:=k1.four
  obtain ⟨x0,x1,xf,xz⟩:=k2.two
  go_enter Try.func94,Try.ntmps94
  go_upto_region 1 with fail
  rw [HV.out]
  go_wp2_with (first | (go_at_call 29; refine (refCost_any LA ln lc BA bn bc o SA bn sc Lo _ HB.out hA1 HO.out HLO.out (Nat.le_refl _) hS1 HX.out.six).mono ?_; rintro e w3 ⟨rfl,hb3⟩) | fail)
  go_ret
  exact ⟨rfl,B0.trans (hb3.mono B0.size)⟩
end Go.Proofs.Ytmemcopfeabcgaa
