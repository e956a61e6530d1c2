/- Prove and Verify of both sides, for all orders and prices. -/
import Derived.Test.YtmemcopfeabcgaaPl
import Derived.Test.YtmemcopfeabcgaaVy
import Derived.Test.YtmemcopfeabcgaaWh
import Derived.Test.YtmemcopfeabcgaaWdM
set_option linter.unusedSimpArgs false
set_option linter.unusedVariables false
namespace Go.Proofs.Ytmemcopfeabcgaa
open Go Go.RowKit
theorem lf_mx' {o : Od} {bn : Nat} (h : o.bs.length = bn) : lf (rowOf o.mx bn) = o.mx:=by rw [← h]; exact lf_mx
/-- What Prove gives, on both sides. -/
def PrvP (o : Od) (p : Int) (w : World) (e : Ending) (w' : World) : Prop :=
 (∃ (A : Option Addr) (c : Nat),e = .returned (.tuple #[.slice A (prvA o p).1.length c,.int .i64 (prvA o p).2]) ∧ Sl w' w'.heap.size 3 A ((prvA o p).1.map bdr) ∧ (prvA o p).1.length ≤ c) ∧ Below w.heap.size w w'
theorem prv_bad {o : Od} {p : Int} (h : ckP o p ≠ 0) : prvA o p = ([],ckP o p):=by unfold prvA; rw [if_pos h]
theorem prv_ok {o : Od} {p : Int} (h : ckP o p = 0) (h2 : (pln o p 25 zer o.mx).2 = true) : prvA o p = ((pln o p 25 zer o.mx).1,0):=by unfold prvA; rw [if_neg (fun h3 => h3 h),if_pos h2]
theorem prv_no {o : Od} {p : Int} (h : ckP o p = 0) (h2 : (pln o p 25 zer o.mx).2 = false) : prvA o p = ([],13):=by unfold prvA; rw [if_neg (fun h3 => h3 h),if_neg (by rw [h2]; simp)]
theorem prove_any (LA : Option Addr) (ln lc : Nat) (BA : Option Addr) (bn bc : Nat) (o : Od) (p : Int) (w : World) (hln : ln ≤ 1000) (hbn : bn ≤ 1000) (hl : o.lm.length = ln) (hb' : o.bs.length = bn) (hA : OrdAt w w.heap.size LA BA o) (hG : ∀ b ∈ o.bs,b.gr.length ≤ 1000) : Calls Try.prog 26 #[.agg #[.slice LA ln lc,.int .i64 o.le,.int .i64 o.mo,.slice BA bn bc],.int .i64 p] w (PrvP o p w):=by
 by_cases hz : ckP o p = 0
 ·obtain ⟨ho,hp0,hp1⟩:=ckP_zero hz
  have hpp:=pln_prf (o:=o) (p:=p) 25 zer o.mx
  cases h2 : (pln o p 25 zer o.mx).2 with
  | true =>
   rw [h2,if_pos rfl] at hpp
   have hlen:=pln_len (o:=o) (p:=p) 25 zer o.mx ho.mx
   have:=tot_bd ho.mx
   refine (prove_ok LA ln lc BA bn bc o p 25 _ w (by omega) (by omega) hl hb' hA ho ⟨hp0,hp1⟩ hpp (by omega)).mono ?_
   rintro e w' ⟨⟨A,C,rfl,hO⟩,hb⟩
   obtain ⟨A',c',e1,e2⟩:=own_sl (rs:=(pln o p 25 zer o.mx).1.map bdr) hO (bdr_len _) (by rw [List.length_map])
   simp only [Value.slice.injEq,true_and] at e1
   obtain ⟨rfl,rfl⟩:=e1
   refine ⟨⟨A,C,?_,?_,?_⟩,hb⟩
   ·rw [prv_ok hz h2]
   ·rw [prv_ok hz h2]; exact e2
   ·rw [prv_ok hz h2]; exact own_le hO
  | false =>
   rw [h2,if_neg (by simp)] at hpp
   refine (prove_no LA ln lc BA bn bc o p 25 w (by omega) (by omega) hl hb' hA ho ⟨hp0,hp1⟩ (wid_mx ho) hpp).mono ?_
   rintro e w' ⟨rfl,hb⟩
   refine ⟨⟨none,0,?_,?_,?_⟩,hb⟩
   ·rw [prv_no hz h2]; rfl
   ·rw [prv_no hz h2]; exact Sl.nil _ _ _ _
   ·rw [prv_no hz h2]; exact Nat.le_refl _
 ·refine (prove_bad LA ln lc BA bn bc o p w hln hbn hl hb' hA hG hz).mono ?_
  rintro e w' ⟨rfl,hb⟩
  refine ⟨⟨none,0,?_,?_,?_⟩,hb⟩
  ·rw [prv_bad hz]; rfl
  ·rw [prv_bad hz]; exact Sl.nil _ _ _ _
  ·rw [prv_bad hz]; exact Nat.le_refl _
theorem verify_any (LA : Option Addr) (ln lc : Nat) (BA : Option Addr) (bn bc : Nat) (o : Od) (p : Int) (w : World) (hln : ln ≤ 1000) (hbn : bn ≤ 1000) (hl : o.lm.length = ln) (hb' : o.bs.length = bn) (hA : OrdAt w w.heap.size LA BA o) (hG : ∀ b ∈ o.bs,b.gr.length ≤ 1000) (PA : Option Addr) (pn pc : Nat) (L : List Bd) (hL : L.length = pn) (hS : Sl w w.heap.size 3 PA (L.map bdr)) (hpc : pn ≤ pc) (hpn : pn ≤ 9000000000000000000) :
  Calls Try.prog 27 #[.agg #[.slice LA ln lc,.int .i64 o.le,.int .i64 o.mo,.slice BA bn bc],.int .i64 p,.slice PA pn pc] w fun e w' => e = .returned (.int .i64 (vrfA o p L)) ∧ Below w.heap.size w w':=by
 by_cases hz : ckP o p = 0
 ·obtain ⟨ho,hp0,hp1⟩:=ckP_zero hz
  refine (verify_ok LA ln lc BA bn bc o p PA pn pc L w (by omega) (by omega) hl hb' hA ho ⟨hp0,hp1⟩ hL hS hpc hpn).mono ?_
  rintro e w' ⟨rfl,hb⟩
  exact ⟨by unfold vrfA; rw [if_neg (fun h => h hz)],hb⟩
 ·refine (verify_bad LA ln lc BA bn bc o p w hln hbn hl hb' hA hG PA pn pc hz).mono ?_
  rintro e w' ⟨rfl,hb⟩
  exact ⟨by unfold vrfA; rw [if_pos hz],hb⟩
set_option maxRecDepth 100000 in
set_option maxHeartbeats 8000000 in
theorem refProve_ok (LA : Option Addr) (ln lc : Nat) (BA : Option Addr) (bn bc : Nat) (o : Od) (p : Int) (w : World) (hln : ln ≤ 1000) (hbn : bn ≤ 1000) (hl : o.lm.length = ln) (hb' : o.bs.length = bn) (hA : OrdAt w w.heap.size LA BA o) (hG : ∀ b ∈ o.bs,b.gr.length ≤ 1000) (hz : ckP o p = 0) : Calls Try.prog 42 #[.agg #[.slice LA ln lc,.int .i64 o.le,.int .i64 o.mo,.slice BA bn bc],.int .i64 p] w (PrvP o p w):=by
 have k1:=Bx.new w 27 #[.slice LA ln lc,.int .i64 o.le,.int .i64 o.mo,.slice BA bn bc]
 have B0:=(Below.refl w.heap.size w).alloc (Nat.le_refl _) (.cells #[.slice LA ln lc,.int .i64 o.le,.int .i64 o.mo,.slice BA bn bc] 27)
 have hA1:=hA.call B0
 obtain ⟨V,hV⟩ : ∃ V,w.alloc (.cells #[.slice LA ln lc,.int .i64 o.le,.int .i64 o.mo,.slice BA bn bc] 27) = V:=⟨_,rfl⟩
 rw [hV] at k1 B0 hA1
 have HB:=Lib.hid hb'
 have HL:=Lib.hid hl
 have HV:=Lib.hid hV
 have HGG:=Lib.hid hG
 have hck:=hz
 obtain ⟨ho,hp0,hp1⟩:=ckP_zero hz
 have HZ:=Lib.hid hz
 have HO:=Lib.hid ho
 have hwx:=wid_mx ho
 have hbx:=ho.mx
 rw [← lf_zer (n:=bn),← lf_mx' hb'] at hwx hbx
 have HX:=Lib.hid hbx
 have HW:=Lib.hid hwx
 have hck:=refPrice_any LA ln lc BA bn bc o p V hln hbn hl hb' hA1 hG
 rw [hz] at hck
 clear hl hb' hV hG hz ho hwx hbx
 obtain ⟨l0,l1,l2,l3,lf',lz⟩:=k1.four
 go_enter Try.func42,Try.ntmps42
 go_upto_region 1 with fail
 rw [HV.out]
 go_upto_region 4 with (first | (go_at_call 77; refine hck.mono ?_; rintro e w1 ⟨rfl,hq⟩) | fail)
 have k2:=k1.call hq
 have hA2:=hA1.call hq
 have B2:=B0.trans (hq.mono B0.size)
 clear l0 l1 l2 l3 lf' lz hck k1 hA1 B0 hq
 go_wp2_with fail
 refine AnyG.startC (by kernel_rfl) ?_
 refine AnyG.takeP (i:=3) (v:=?_) rfl (by kernel_rfl) (fun _ _ _ h => h) rfl ?_ ?_
 rotate_left
 ·(intro w'; go_simp; try with_reducible rfl)
 try simp only [Act.put,Sp1,Sp2,Sp3,Sp4,Sp5,Sp6]
 refine AnyG.enter (fun w' : World => Below w1.heap.size w1 w') (fun i => true) ?_
 have hS : (fun w' : World => Below w1.heap.size w1 w') (World.drew _):=(Below.refl _ _).drew
 refine AnyG.takeC (i:=0) (v:=?_) rfl (by kernel_rfl) (fun _ _ _ h => h) rfl ?_ hS ?_
 rotate_left
 ·(intro w' hSw; (try dsimp only at hSw); obtain ⟨l0,l1,l2,l3,lf2,lz⟩:=(k2.call hSw).four; go_simp; try with_reducible rfl)
 try simp only [Act.put,Sp1,Sp2,Sp3,Sp4,Sp5,Sp6]
 refine AnyG.takeC (i:=1) (v:=?_) rfl (by kernel_rfl) (fun _ _ _ h => h) rfl ?_ hS ?_
 rotate_left
 ·(intro w' hSw; (try dsimp only at hSw); obtain ⟨l0,l1,l2,l3,lf2,lz⟩:=(k2.call hSw).four; go_simp; try with_reducible rfl)
 try simp only [Act.put,Sp1,Sp2,Sp3,Sp4,Sp5,Sp6]
 refine AnyG.one (i:=2) (by kernel_rfl) rfl rfl ?_
 go_simp
 refine (refWhole_any LA ln lc BA bn bc o _ HL.out HB.out (hA2.call hS) HO.out).mono ?_
 rintro e2 y2 ⟨⟨A2,c2,D2,e2c,rfl,hN,hM⟩,hb2⟩
 refine Onward.on (hS.trans (hb2.mono hS.size)) (fun hS2 => ?_)
 clear hS
 have hS:=hS2
 clear hS2
 try simp only [Act.put,Sp1,Sp2,Sp3,Sp4,Sp5,Sp6]
 refine AnyG.one (i:=4) (by kernel_rfl) rfl rfl ?_
 go_simp
 have hcv:=refPlain_any LA ln lc BA bn bc o p HL.out HB.out HO.out 25 (rowOf zer bn) (rowOf o.mx bn) A2 D2 c2 e2c _ HW.out HX.out (rowOf_len _ _) (rowOf_len _ _) (hA2.call hS) hN hM
 rw [lf_zer,lf_mx' HB.out] at hcv
 refine hcv.mono ?_
 clear hcv
 rintro e4 y4 ⟨⟨A4,c4,rfl,hP4,hc4x⟩,hb4⟩
 refine Onward.on (hS.trans (hb4.mono hS.size)) (fun hS2 => ?_)
 clear hS
 have hS:=hS2
 clear hS2
 try simp only [Act.put,Sp1,Sp2,Sp3,Sp4,Sp5,Sp6]
 refine AnyG.takeC (i:=5) (v:=?_) rfl (by kernel_rfl) (fun _ _ _ h => h) rfl ?_ hS ?_
 rotate_left
 ·(intro w' hSw; (try dsimp only at hSw); go_simp; try with_reducible rfl)
 try simp only [Act.put,Sp1,Sp2,Sp3,Sp4,Sp5,Sp6]
 refine AnyG.takeC (i:=6) (v:=?_) rfl (by kernel_rfl) (fun _ _ _ h => h) rfl ?_ hS ?_
 rotate_left
 ·(intro w' hSw; (try dsimp only at hSw); go_simp; try with_reducible rfl)
 try simp only [Act.put,Sp1,Sp2,Sp3,Sp4,Sp5,Sp6]
 refine AnyG.takeC (i:=7) (v:=?_) rfl (by kernel_rfl) (fun _ _ _ h => h) rfl ?_ hS ?_
 rotate_left
 ·(intro w' hSw; (try dsimp only at hSw); go_simp; try with_reducible rfl)
 try simp only [Act.put,Sp1,Sp2,Sp3,Sp4,Sp5,Sp6]
 refine AnyG.takeC (i:=8) (v:=?_) rfl (by kernel_rfl) (fun _ _ _ h => h) rfl ?_ hS ?_
 rotate_left
 ·(intro w' hSw; (try dsimp only at hSw); go_simp; try with_reducible rfl)
 try simp only [Act.put,Sp1,Sp2,Sp3,Sp4,Sp5,Sp6]
 refine AnyG.takeC (i:=9) (v:=?_) rfl (by kernel_rfl) (fun _ _ _ h => h) rfl ?_ hS ?_
 rotate_left
 ·(intro w' hSw; (try dsimp only at hSw); go_simp; try with_reducible rfl)
 try simp only [Act.put,Sp1,Sp2,Sp3,Sp4,Sp5,Sp6]
 refine AnyG.done (by kernel_rfl) ?_ _
 have hE : Below w1.heap.size w1 _:=hS
 clear hS
 go_simp
 obtain ⟨Y,hYd⟩ : ∃ x,pln o p 25 zer o.mx = x:=⟨_,rfl⟩
 rw [hYd] at hP4 hc4x ⊢
 have HYD:=Lib.hid hYd
 clear hYd
 obtain ⟨Y,b⟩:=Y
 dsimp only at hP4 hc4x ⊢
 cases b with
 | true =>
  have ev:=prv_ok HZ.out (by rw [HYD.out])
  rw [HYD.out] at ev
  have HEV:=Lib.hid ev
  clear ev
  go_wp2_with fail
  refine bodyPost_ret (v:=.tuple #[.slice A4 Y.length c4,.int .i64 0]) (by simp [results,Try.results42,go_sem]) rfl ⟨⟨_,_,by rw [HEV.out],by rw [HEV.out]; exact hP4,by rw [HEV.out]; exact hc4x⟩,B2.trans (hE.mono B2.size)⟩
 | false =>
  have ev:=prv_no HZ.out (by rw [HYD.out])
  have HEV:=Lib.hid ev
  clear ev
  go_wp2_with fail
  refine bodyPost_ret (v:=.tuple #[.slice none 0 0,.int .i64 13]) (by simp [results,Try.results42,go_sem]) rfl ⟨⟨none,0,by rw [HEV.out]; rfl,by rw [HEV.out]; exact Sl.nil _ _ _ _,by rw [HEV.out]; exact Nat.le_refl _⟩,B2.trans (hE.mono B2.size)⟩
theorem refProve_any (LA : Option Addr) (ln lc : Nat) (BA : Option Addr) (bn bc : Nat) (o : Od) (p : Int) (w : World) (hln : ln ≤ 1000) (hbn : bn ≤ 1000) (hl : o.lm.length = ln) (hb' : o.bs.length = bn) (hA : OrdAt w w.heap.size LA BA o) (hG : ∀ b ∈ o.bs,b.gr.length ≤ 1000) : Calls Try.prog 42 #[.agg #[.slice LA ln lc,.int .i64 o.le,.int .i64 o.mo,.slice BA bn bc],.int .i64 p] w (PrvP o p w):=by
 by_cases hz : ckP o p = 0
 ·exact refProve_ok LA ln lc BA bn bc o p w hln hbn hl hb' hA hG hz
 ·refine (refProve_bad LA ln lc BA bn bc o p w hln hbn hl hb' hA hG hz).mono ?_
  rintro e w' ⟨rfl,hb⟩
  refine ⟨⟨none,0,?_,?_,?_⟩,hb⟩
  ·rw [prv_bad hz]; rfl
  ·rw [prv_bad hz]; exact Sl.nil _ _ _ _
  ·rw [prv_bad hz]; exact Nat.le_refl _
set_option maxRecDepth 100000 in
set_option maxHeartbeats 8000000 in
theorem refVerify_ok (LA : Option Addr) (ln lc : Nat) (BA : Option Addr) (bn bc : Nat) (o : Od) (p : Int) (w : World) (hln : ln ≤ 1000) (hbn : bn ≤ 1000) (hl : o.lm.length = ln) (hb' : o.bs.length = bn) (hA : OrdAt w w.heap.size LA BA o) (hG : ∀ b ∈ o.bs,b.gr.length ≤ 1000) (PA : Option Addr) (pn pc : Nat) (L : List Bd) (hLn : L.length = pn) (hSP : Sl w w.heap.size 3 PA (L.map bdr)) (hpc : pn ≤ pc) (hpn : pn ≤ 9000000000000000000) (hz : ckP o p = 0) :
  Calls Try.prog 45 #[.agg #[.slice LA ln lc,.int .i64 o.le,.int .i64 o.mo,.slice BA bn bc],.int .i64 p,.slice PA pn pc] w fun e w' => e = .returned (.int .i64 (vrfA o p L)) ∧ Below w.heap.size w w':=by
 have k1:=Bx.new w 27 #[.slice LA ln lc,.int .i64 o.le,.int .i64 o.mo,.slice BA bn bc]
 have B0:=(Below.refl w.heap.size w).alloc (Nat.le_refl _) (.cells #[.slice LA ln lc,.int .i64 o.le,.int .i64 o.mo,.slice BA bn bc] 27)
 have hA1:=hA.call B0
 obtain ⟨V,hV⟩ : ∃ V,w.alloc (.cells #[.slice LA ln lc,.int .i64 o.le,.int .i64 o.mo,.slice BA bn bc] 27) = V:=⟨_,rfl⟩
 rw [hV] at k1 B0 hA1
 have HB:=Lib.hid hb'
 have HL:=Lib.hid hl
 have HV:=Lib.hid hV
 have HGG:=Lib.hid hG
 have hck:=hz
 obtain ⟨ho,hp0,hp1⟩:=ckP_zero hz
 have HZ:=Lib.hid hz
 have HO:=Lib.hid ho
 have hwx:=wid_mx ho
 have hbx:=ho.mx
 rw [← lf_zer (n:=bn),← lf_mx' hb'] at hwx hbx
 have HX:=Lib.hid hbx
 have HW:=Lib.hid hwx
 have HN:=Lib.hid hLn
 have hSP1 : Sl V V.heap.size 3 PA (L.map bdr):=by rw [← hV]; exact hSP.call ((Below.refl w.heap.size w).alloc (Nat.le_refl _) _)
 have hva : vrfA o p L = vrf o p L:=by unfold vrfA; rw [if_neg (fun h => h hz)]
 rw [hva]
 have hck:=refPrice_any LA ln lc BA bn bc o p V hln hbn hl hb' hA1 hG
 rw [hz] at hck
 clear hl hb' hV hG hz ho hwx hbx hLn hSP hva
 obtain ⟨l0,l1,l2,l3,lf',lz⟩:=k1.four
 go_enter Try.func45,Try.ntmps45
 go_upto_region 1 with fail
 rw [HV.out]
 go_upto_region 4 with (first | (go_at_call 77; refine hck.mono ?_; rintro e w1 ⟨rfl,hq⟩) | fail)
 have k2:=k1.call hq
 have hA2:=hA1.call hq
 have hSP2:=hSP1.call hq
 have B2:=B0.trans (hq.mono B0.size)
 clear l0 l1 l2 l3 lf' lz hck k1 hA1 hSP1 B0 hq
 by_cases h6 : 6000 < pn
 ·have d6 : decide ((6000 : Int) < (pn : Int)) = true:=by simp; omega
  have ev : vrf o p L = 6:=by unfold vrf; rw [HN.out,if_pos h6]
  have HEV:=Lib.hid ev
  clear h6 ev
  go_wp2_with fail
  go_ret
  rw [HEV.out]
  exact ⟨rfl,B2⟩
 ·have d6 : decide ((6000 : Int) < (pn : Int)) = false:=by simp; omega
  have ev : vrf o p L = (if (vfy o p 25 zer o.mx L).2 ≠ 0 then (vfy o p 25 zer o.mx L).2 else if 0 < (vfy o p 25 zer o.mx L).1.length then 2 else 0):=by unfold vrf; rw [HN.out,if_neg h6]
  have HEV:=Lib.hid ev
  clear h6 ev
  go_wp2_with fail
  refine AnyG.startC (by kernel_rfl) ?_
  refine AnyG.takeP (i:=3) (v:=?_) rfl (by kernel_rfl) (fun _ _ _ h => h) rfl ?_ ?_
  rotate_left
  ·(intro w'; go_simp; try with_reducible rfl)
  try simp only [Act.put,Sp1,Sp2,Sp3,Sp4,Sp5,Sp6]
  refine AnyG.takeP (i:=4) (v:=?_) rfl (by kernel_rfl) (fun _ _ _ h => h) rfl ?_ ?_
  rotate_left
  ·(intro w'; go_simp; try with_reducible rfl)
  try simp only [Act.put,Sp1,Sp2,Sp3,Sp4,Sp5,Sp6]
  refine AnyG.enter (fun w' : World => Below w1.heap.size w1 w') (fun i => true) ?_
  have hS : (fun w' : World => Below w1.heap.size w1 w') (World.drew _):=(Below.refl _ _).drew
  refine AnyG.takeC (i:=0) (v:=?_) rfl (by kernel_rfl) (fun _ _ _ h => h) rfl ?_ hS ?_
  rotate_left
  ·(intro w' hSw; (try dsimp only at hSw); obtain ⟨l0,l1,l2,l3,lf2,lz⟩:=(k2.call hSw).four; go_simp; try with_reducible rfl)
  try simp only [Act.put,Sp1,Sp2,Sp3,Sp4,Sp5,Sp6]
  refine AnyG.takeC (i:=1) (v:=?_) rfl (by kernel_rfl) (fun _ _ _ h => h) rfl ?_ hS ?_
  rotate_left
  ·(intro w' hSw; (try dsimp only at hSw); obtain ⟨l0,l1,l2,l3,lf2,lz⟩:=(k2.call hSw).four; go_simp; try with_reducible rfl)
  try simp only [Act.put,Sp1,Sp2,Sp3,Sp4,Sp5,Sp6]
  refine AnyG.one (i:=2) (by kernel_rfl) rfl rfl ?_
  go_simp
  refine (refWhole_any LA ln lc BA bn bc o _ HL.out HB.out (hA2.call hS) HO.out).mono ?_
  rintro e2 y2 ⟨⟨A2,c2,D2,e2c,rfl,hN,hM⟩,hb2⟩
  refine Onward.on (hS.trans (hb2.mono hS.size)) (fun hS2 => ?_)
  clear hS
  have hS:=hS2
  clear hS2
  try simp only [Act.put,Sp1,Sp2,Sp3,Sp4,Sp5,Sp6]
  refine AnyG.one (i:=5) (by kernel_rfl) rfl rfl ?_
  go_simp
  have hcv:=refVerify80_any LA ln lc BA bn bc o p HL.out HB.out HO.out 25 (rowOf zer bn) (rowOf o.mx bn) A2 D2 c2 e2c L PA pc _ HW.out HX.out (rowOf_len _ _) (rowOf_len _ _) (hA2.call hS) hN hM (hSP2.call hS) (by rw [HN.out]; exact hpc) (by rw [HN.out]; exact hpn)
  rw [lf_zer,lf_mx' HB.out,HN.out] at hcv
  refine hcv.mono ?_
  clear hcv
  rintro e5 y5 ⟨⟨v5,rfl,hv1,hv0⟩,hb5⟩
  refine Onward.on (hS.trans (hb5.mono hS.size)) (fun hS2 => ?_)
  clear hS
  have hS:=hS2
  clear hS2
  try simp only [Act.put,Sp1,Sp2,Sp3,Sp4,Sp5,Sp6]
  refine AnyG.takeC (i:=6) (v:=?_) rfl (by kernel_rfl) (fun _ _ _ h => h) rfl ?_ hS ?_
  rotate_left
  ·(intro w' hSw; (try dsimp only at hSw); go_simp; try with_reducible rfl)
  try simp only [Act.put,Sp1,Sp2,Sp3,Sp4,Sp5,Sp6]
  refine AnyG.takeC (i:=7) (v:=?_) rfl (by kernel_rfl) (fun _ _ _ h => h) rfl ?_ hS ?_
  rotate_left
  ·(intro w' hSw; (try dsimp only at hSw); go_simp; try with_reducible rfl)
  try simp only [Act.put,Sp1,Sp2,Sp3,Sp4,Sp5,Sp6]
  refine AnyG.takeC (i:=8) (v:=?_) rfl (by kernel_rfl) (fun _ _ _ h => h) rfl ?_ hS ?_
  rotate_left
  ·(intro w' hSw; (try dsimp only at hSw); go_simp; try with_reducible rfl)
  try simp only [Act.put,Sp1,Sp2,Sp3,Sp4,Sp5,Sp6]
  refine AnyG.takeC (i:=9) (v:=?_) rfl (by kernel_rfl) (fun _ _ _ h => h) rfl ?_ hS ?_
  rotate_left
  ·(intro w' hSw; (try dsimp only at hSw); go_simp; try with_reducible rfl)
  try simp only [Act.put,Sp1,Sp2,Sp3,Sp4,Sp5,Sp6]
  refine AnyG.takeC (i:=10) (v:=?_) rfl (by kernel_rfl) (fun _ _ _ h => h) rfl ?_ hS ?_
  rotate_left
  ·(intro w' hSw; (try dsimp only at hSw); go_simp; try with_reducible rfl)
  try simp only [Act.put,Sp1,Sp2,Sp3,Sp4,Sp5,Sp6]
  refine AnyG.done (by kernel_rfl) ?_ _
  have hE : Below w1.heap.size w1 _:=hS
  clear hS
  go_simp
  obtain ⟨R,hR⟩ : ∃ R,vfy o p 25 zer o.mx L = R:=⟨_,rfl⟩
  rw [hR] at HEV hv1 hv0 ⊢
  clear hR
  obtain ⟨RL,re⟩:=R
  dsimp only at HEV hv1 hv0 ⊢
  by_cases h1 : re = 0
  ·subst h1
   obtain ⟨RA,rc,rfl,hrc,hRS⟩:=hv0 rfl
   obtain ⟨rn,hrn⟩ : ∃ k,RL.length = k:=⟨_,rfl⟩
   rw [hrn] at HEV ⊢
   clear hrn hrc hRS hv0 hv1
   by_cases h2 : 0 < rn
   ·have d2 : decide ((0 : Int) < (rn : Int)) = true:=by simp; omega
    have HH2:=Lib.hid h2
    clear h2
    go_wp2_with fail
    go_ret
    rw [HEV.out,if_neg (fun h => h rfl),if_pos HH2.out]
    exact ⟨rfl,B2.trans (hE.mono B2.size)⟩
   ·obtain rfl : rn = 0:=by omega
    go_wp2_with fail
    go_ret
    rw [HEV.out,if_neg (fun h => h rfl),if_neg (by omega)]
    exact ⟨rfl,B2.trans (hE.mono B2.size)⟩
  ·have d1 : (re == 0) = false:=by simp; exact h1
   have HH1:=Lib.hid h1
   obtain rfl:=hv1 h1
   clear h1 hv0 hv1
   go_wp2_with fail
   go_ret
   rw [HEV.out,if_pos HH1.out]
   exact ⟨rfl,B2.trans (hE.mono B2.size)⟩
theorem refVerify_any (LA : Option Addr) (ln lc : Nat) (BA : Option Addr) (bn bc : Nat) (o : Od) (p : Int) (w : World) (hln : ln ≤ 1000) (hbn : bn ≤ 1000) (hl : o.lm.length = ln) (hb' : o.bs.length = bn) (hA : OrdAt w w.heap.size LA BA o) (hG : ∀ b ∈ o.bs,b.gr.length ≤ 1000) (PA : Option Addr) (pn pc : Nat) (L : List Bd) (hL : L.length = pn) (hS : Sl w w.heap.size 3 PA (L.map bdr)) (hpc : pn ≤ pc) (hpn : pn ≤ 9000000000000000000) :
  Calls Try.prog 45 #[.agg #[.slice LA ln lc,.int .i64 o.le,.int .i64 o.mo,.slice BA bn bc],.int .i64 p,.slice PA pn pc] w fun e w' => e = .returned (.int .i64 (vrfA o p L)) ∧ Below w.heap.size w w':=by
 by_cases hz : ckP o p = 0
 ·exact refVerify_ok LA ln lc BA bn bc o p w hln hbn hl hb' hA hG PA pn pc L hL hS hpc hpn hz
 ·refine (refVerify_bad LA ln lc BA bn bc o p w hln hbn hl hb' hA hG PA pn pc hz).mono ?_
  rintro e w' ⟨rfl,hb⟩
  exact ⟨by unfold vrfA; rw [if_pos hz],hb⟩
end Go.Proofs.Ytmemcopfeabcgaa
