/- swarfkit.EqualRanges; EqualOrders of equal orders; swarflaw06.huge. -/
import Derived.Test.YtmemcopfeabcgaaAlM
import Derived.Test.YtmemcopfeabcgaaLxM
set_option linter.unusedSimpArgs false
set_option linter.unusedVariables false
namespace Go.Proofs.Ytmemcopfeabcgaa
open Go Go.RowKit
set_option maxRecDepth 100000 in
set_option maxHeartbeats 2000000 in
theorem equalRanges_any (A : Option Addr) (n c : Nat) (B : Option Addr) (m d : Nat) (La Lb : List (Int × Int)) (w : World) (hn : n ≤ 9000000000000000000) (hm : m ≤ 9000000000000000000) (hla : La.length = n) (hlb : Lb.length = m) (hA : Sl w w.heap.size 2 A (gnr La)) (hB : Sl w w.heap.size 2 B (gnr Lb)) :
  Calls Try.prog 75 #[.slice A n c,.slice B m d] w fun e w' => e = .returned (.bool (decide (La = Lb))) ∧ Below w.heap.size w w':=by
 have HLA:=Lib.hid hla
 have HLB:=Lib.hid hlb
 clear hla hlb
 go_enter Try.func75,Try.ntmps75
 go_wp2_with fail
 go_loopw [5,6] (fun b i wr => ∃ (k : Nat) (t : Bool),k ≤ n ∧ i = .int .i64 k ∧ b = .bool t ∧ Hid (t = decide (n = m ∧ La.take k = Lb.take k)) ∧ Below w.heap.size w wr) (fun _ i _ => n - (intOf i).toNat)
 case atStart => exact ⟨0,_,by omega,rfl,rfl,by unfold Hid; by_cases h : n = m <;> simp [h]; omega,Below.refl _ _⟩
 case round =>
  obtain ⟨k,t,hk,rfl,rfl,ht,hBe⟩:=hrel
  by_cases hgo : t = true ∧ k < n
  ·obtain ⟨rfl,hkn⟩:=hgo
   have htt:=ht.out
   have hnm : n = m ∧ La.take k = Lb.take k:=of_decide_eq_true htt.symm
   have HNM:=Lib.hid hnm
   clear hnm
   have hkm : k < m:=by have:=HNM.out.1; omega
   clear htt ht
   have hka : k < La.length:=by rw [HLA.out]; exact hkn
   have hkb : k < Lb.length:=by rw [HLB.out]; omega
   obtain ⟨ad,rfl,hab,p0,p1⟩:=gnr_at (hA.below hBe) hka
   obtain ⟨bd,rfl,hbb,q0,q1⟩:=gnr_at (hB.below hBe) hkb
   have HTA:=Lib.hid (List.take_succ_eq_append_getElem hka)
   have HTB:=Lib.hid (List.take_succ_eq_append_getElem hkb)
   generalize La[k]'hka = x at *
   generalize Lb[k]'hkb = y at *
   clear hka hkb
   go_wp2_with fail
   refine AnyG.start (fun w' : World => Below wr.heap.size wr w') (fun i => true) (by kernel_rfl) ?_
   have hS : (fun w' : World => Below wr.heap.size wr w') (World.drew _):=(Below.refl _ _).drew
   refine AnyG.take (i:=0) (v:=?_) rfl (by kernel_rfl) (fun _ _ _ h => h) rfl ?_ hS ?_
   rotate_left
   ·(intro w' _; go_simp; try with_reducible rfl)
   try simp only [Act.put,Sp4,Sp5,Sp6]
   refine AnyG.take (i:=1) (v:=?_) rfl (by kernel_rfl) (fun _ _ _ h => h) rfl ?_ hS ?_
   rotate_left
   ·(intro w' _; go_simp; try with_reducible rfl)
   try simp only [Act.put,Sp4,Sp5,Sp6]
   refine AnyG.take (i:=2) (v:=?_) rfl (by kernel_rfl) (fun _ _ _ h => h) rfl ?_ hS ?_
   rotate_left
   ·(intro w' _; go_simp; try with_reducible rfl)
   try simp only [Act.put,Sp4,Sp5,Sp6]
   refine AnyG.take (i:=3) (v:=?_) rfl (by kernel_rfl) (fun _ _ _ h => h) rfl ?_ hS ?_
   rotate_left
   ·(intro w' hSw; (try dsimp only at hSw); have p0:=cellC hSw p0; have p1:=cellC hSw p1; have q0:=cellC hSw q0; have q1:=cellC hSw q1; go_simp; try with_reducible rfl)
   try simp only [Act.put,Sp4,Sp5,Sp6]
   refine AnyG.take (i:=4) (v:=?_) rfl (by kernel_rfl) (fun _ _ _ h => h) rfl ?_ hS ?_
   rotate_left
   ·(intro w' _; go_simp; try with_reducible rfl)
   try simp only [Act.put,Sp4,Sp5,Sp6]
   refine AnyG.take (i:=5) (v:=?_) rfl (by kernel_rfl) (fun _ _ _ h => h) rfl ?_ hS ?_
   rotate_left
   ·(intro w' _; go_simp; try with_reducible rfl)
   try simp only [Act.put,Sp4,Sp5,Sp6]
   refine AnyG.take (i:=6) (v:=?_) rfl (by kernel_rfl) (fun _ _ _ h => h) rfl ?_ hS ?_
   rotate_left
   ·(intro w' _; go_simp; try with_reducible rfl)
   try simp only [Act.put,Sp4,Sp5,Sp6]
   refine AnyG.take (i:=7) (v:=?_) rfl (by kernel_rfl) (fun _ _ _ h => h) rfl ?_ hS ?_
   rotate_left
   ·(intro w' hSw; (try dsimp only at hSw); have p0:=cellC hSw p0; have p1:=cellC hSw p1; have q0:=cellC hSw q0; have q1:=cellC hSw q1; go_simp; try with_reducible rfl)
   try simp only [Act.put,Sp4,Sp5,Sp6]
   refine AnyG.take (i:=8) (v:=.bool (decide (x.1 = y.1 ∧ x.2 = y.2))) rfl (by kernel_rfl) (fun _ _ _ h => h) rfl ?_ hS ?_
   ·(intro w' _; go_simp; by_cases h1 : x.1 = y.1 <;> by_cases h2 : x.2 = y.2 <;> simp [h1,h2])
   try simp only [Act.put,Sp4,Sp5,Sp6]
   refine AnyG.take (i:=9) (v:=?_) rfl (by kernel_rfl) (fun _ _ _ h => h) rfl ?_ hS ?_
   rotate_left
   ·(intro w' _; go_simp; try with_reducible rfl)
   try simp only [Act.put,Sp4,Sp5,Sp6]
   refine AnyG.done (by kernel_rfl) ?_ _
   clear hS
   go_simp
   go_wp2_with fail
   go_roundw
   case rel =>
    refine ⟨k + 1,_,by omega,by go_num,rfl,?_,hBe.drew⟩
    unfold Hid
    rw [HTA.out,HTB.out,HNM.out.2,← Bool.decide_and,decide_eq_decide]
    constructor
    ·rintro ⟨h1,h2⟩
     exact ⟨HNM.out.1,by rw [Prod.ext h1 h2]⟩
    ·rintro ⟨_,h⟩
     have:=(List.append_inj' h rfl).2
     simp only [List.cons.injEq,and_true] at this
     rw [this]; exact ⟨rfl,rfl⟩
   case measure => simp [intOf]; omega
  ·have hend : t = decide (La = Lb):=by
    rw [ht.out,decide_eq_decide]
    by_cases hkn : k < n
    ·have htf : t = false:=by
      cases t with
      | false => rfl
      | true => exact absurd ⟨rfl,hkn⟩ hgo
     have h0 : ¬ (n = m ∧ La.take k = Lb.take k):=of_decide_eq_false (ht.out.symm.trans htf)
     constructor
     ·intro h; exact absurd h h0
     ·rintro rfl; exact absurd ⟨by rw [← HLA.out,← HLB.out],rfl⟩ h0
    ·obtain rfl : k = n:=by omega
     rw [List.take_of_length_le (Nat.le_of_eq HLA.out)]
     constructor
     ·rintro ⟨rfl,h⟩; rw [h,List.take_of_length_le (Nat.le_of_eq HLB.out)]
     ·rintro rfl
      have hkm : k = m:=by rw [← HLA.out,← HLB.out]
      exact ⟨hkm,(List.take_of_length_le (Nat.le_of_eq HLA.out)).symm⟩
   have HE:=Lib.hid hend
   clear hend ht
   by_cases hkn : k < n
   ·obtain rfl : t = false:=by
     cases t with
     | false => rfl
     | true => exact absurd ⟨rfl,hkn⟩ hgo
    go_wp2_with fail
    go_ret
    exact ⟨ret_bool HE.out,hBe⟩
   ·cases t
    all_goals
     go_wp2_with fail
     go_ret
     exact ⟨ret_bool HE.out,hBe⟩
theorem Bx.set4 {w : World} {b t : Nat} {a0 a1 a2 a3 : Value} (h : Bx w b t #[a0,a1,a2,a3]) (v0 v1 v2 v3 : Value) : Bx ((((w.setCell ⟨b,0,none⟩ v0).setCell ⟨b,1,none⟩ v1).setCell ⟨b,2,none⟩ v2).setCell ⟨b,3,none⟩ v3) b t #[v0,v1,v2,v3]:=by simpa using (((h.set_ 0 v0).set_ 1 v1).set_ 2 v2).set_ 3 v3
theorem Bx.far4 {w : World} {g t b : Nat} {cs : Array Value} (h : Bx w g t cs) (hne : g ≠ b) (v0 v1 v2 v3 : Value) : Bx ((((w.setCell ⟨b,0,none⟩ v0).setCell ⟨b,1,none⟩ v1).setCell ⟨b,2,none⟩ v2).setCell ⟨b,3,none⟩ v3) g t cs:=(((h.far hne v0).far hne v1).far hne v2).far hne v3
theorem below4 {B : Nat} {w x : World} {b : Nat} (h : Below B w x) (hb : B ≤ b) (v0 v1 v2 v3 : Value) : Below B w ((((x.setCell ⟨b,0,none⟩ v0).setCell ⟨b,1,none⟩ v1).setCell ⟨b,2,none⟩ v2).setCell ⟨b,3,none⟩ v3):=(((h.setCell hb v0).setCell hb v1).setCell hb v2).setCell hb v3
set_option maxRecDepth 100000 in
set_option maxHeartbeats 4000000 in
theorem equalOrders_same (LA : Option Addr) (ln lc : Nat) (BA : Option Addr) (bn bc : Nat) (XA : Option Addr) (xc : Nat) (YA : Option Addr) (yc : Nat) (o : Od) (w : World) (hln : ln ≤ 1000) (hbn : bn ≤ 1000) (hl : o.lm.length = ln) (hb' : o.bs.length = bn) (hA : OrdAt w w.heap.size LA BA o) (hX : OrdAt w w.heap.size XA YA o) (hG : ∀ b ∈ o.bs,b.gr.length ≤ 1000) :
  Calls Try.prog 39 #[.agg #[.slice LA ln lc,.int .i64 o.le,.int .i64 o.mo,.slice BA bn bc],.agg #[.slice XA ln xc,.int .i64 o.le,.int .i64 o.mo,.slice YA bn yc]] w fun e w' => e = .returned (.bool true) ∧ Below w.heap.size w w':=by
 have k1:=(Bx.new w 27 #[.slice LA ln lc,.int .i64 o.le,.int .i64 o.mo,.slice BA bn bc]).alloc (.cells #[.slice XA ln xc,.int .i64 o.le,.int .i64 o.mo,.slice YA bn yc] 27)
 have k2:=Bx.at (w.alloc (.cells #[.slice LA ln lc,.int .i64 o.le,.int .i64 o.mo,.slice BA bn bc] 27)) 27 #[.slice XA ln xc,.int .i64 o.le,.int .i64 o.mo,.slice YA bn yc] (n:=w.heap.size + 1) (by simp)
 have B0:=((Below.refl w.heap.size w).alloc (Nat.le_refl _) (.cells #[.slice LA ln lc,.int .i64 o.le,.int .i64 o.mo,.slice BA bn bc] 27)).alloc (by simp) (.cells #[.slice XA ln xc,.int .i64 o.le,.int .i64 o.mo,.slice YA bn yc] 27)
 obtain ⟨V,hV⟩ : ∃ V,(w.alloc (.cells #[.slice LA ln lc,.int .i64 o.le,.int .i64 o.mo,.slice BA bn bc] 27)).alloc (.cells #[.slice XA ln xc,.int .i64 o.le,.int .i64 o.mo,.slice YA bn yc] 27) = V:=⟨_,rfl⟩
 have hA1:=hA.call B0
 have hX1:=hX.call B0
 rw [hV] at k1 k2 B0 hA1 hX1
 have HB:=Lib.hid hb'
 have HL:=Lib.hid hl
 have HV:=Lib.hid hV
 have HK1:=Lib.hid k1
 have HK2:=Lib.hid k2
 have HGG:=Lib.hid hG
 clear hV hl hb' hA hX hG k1 k2
 have hBV:=Below.refl V.heap.size V
 obtain ⟨l0,l1,l2,l3,lf',lz⟩:=(HK1.out.call hBV).four
 obtain ⟨m0,m1,m2,m3,mf,mz⟩:=(HK2.out.call hBV).four
 go_enter Try.func39,Try.ntmps39
 go_upto_region 1 with fail
 rw [HV.out]
 go_upto_region 2 with (first | (go_at_call 23; refine (equalInts_any LA ln lc XA ln xc o.lm o.lm _ (by omega) (by omega) HL.out HL.out hA1.lm hX1.lm).mono ?_; rintro e xw ⟨rfl,hx⟩; rw [show decide (o.lm = o.lm) = true by simp]; replace hBV:=hBV.trans (hx.mono hBV.size); clear l0 l1 l2 l3 lf' lz m0 m1 m2 m3 mf mz; obtain ⟨l0,l1,l2,l3,lf',lz⟩:=(HK1.out.call hBV).four; obtain ⟨m0,m1,m2,m3,mf,mz⟩:=(HK2.out.call hBV).four) | fail)
 clear l0 l1 l2 l3 lf' lz m0 m1 m2 m3 mf mz
 go_wp2_with fail
 go_loopw [5,6,7,8] (fun b v _ _ wr => ∃ (i : Nat),v = .int .i64 i ∧ i ≤ bn ∧ b = .bool true ∧ Below V.heap.size V wr) (fun _ v _ _ _ => bn - (intOf v).toNat)
 case atStart => exact ⟨0,rfl,by omega,rfl,hBV⟩
 case round =>
  clear hBV
  obtain ⟨i,rfl,hi,rfl,hBV⟩:=hrel
  obtain ⟨l0,l1,l2,l3,lf',lz⟩:=(HK1.out.call hBV).four
  obtain ⟨m0,m1,m2,m3,mf,mz⟩:=(HK2.out.call hBV).four
  by_cases hin : i < bn
  ·have hil : i < o.bs.length:=by rw [HB.out]; exact hin
   have hiw : IntKind.i64.wrap ((i : Int) + 1) = (i : Int) + 1:=IntWalk.i64_in _ (by omega)
   obtain ⟨ba,G,gc,rfl,hba,p0,p1,p2,p3,hgs⟩:=hA1.bs.at_ hil
   obtain ⟨ya,G2,gc2,rfl,hya,r0,r1,r2,r3,hgs2⟩:=hX1.bs.at_ hil
   have hgl:=HGG.out _ (List.getElem_mem hil)
   obtain ⟨⟨wt,ct,gt,gr⟩,hbe⟩ : ∃ b,o.bs[i] = b:=⟨_,rfl⟩
   rw [hbe] at p0 p1 p2 p3 hgs r0 r1 r2 r3 hgs2 hgl
   dsimp only at p0 p1 p2 p3 hgs r0 r1 r2 r3 hgs2 hgl
   clear hbe
   go_wp2_with fail
   clear l0 l1 l2 l3 lf' lz m0 m1 m2 m3 mf mz
   obtain ⟨U,hU⟩ : ∃ U,U = wr:=⟨_,rfl⟩
   subst hU
   refine AnyG.startC (by kernel_rfl) ?_
   refine AnyG.takeP (i:=0) (v:=?_) rfl (by kernel_rfl) (fun _ _ _ h => h) rfl ?_ ?_
   rotate_left
   ·(intro w'; go_simp; try with_reducible rfl)
   try simp only [Act.put,Sp1,Sp2,Sp3,Sp4,Sp5,Sp6]
   refine AnyG.takeP (i:=2) (v:=?_) rfl (by kernel_rfl) (fun _ _ _ h => h) rfl ?_ ?_
   rotate_left
   ·(intro w'; go_simp; try with_reducible rfl)
   try simp only [Act.put,Sp1,Sp2,Sp3,Sp4,Sp5,Sp6]
   refine AnyG.takeP (i:=5) (v:=?_) rfl (by kernel_rfl) (fun _ _ _ h => h) rfl ?_ ?_
   rotate_left
   ·(intro w'; go_simp; try with_reducible rfl)
   try simp only [Act.put,Sp1,Sp2,Sp3,Sp4,Sp5,Sp6]
   refine AnyG.takeP (i:=7) (v:=?_) rfl (by kernel_rfl) (fun _ _ _ h => h) rfl ?_ ?_
   rotate_left
   ·(intro w'; go_simp; try with_reducible rfl)
   try simp only [Act.put,Sp1,Sp2,Sp3,Sp4,Sp5,Sp6]
   refine AnyG.enter (fun w' : World => Below U.heap.size U w') (fun i => i != 13) ?_
   have hS : (fun w' : World => Below U.heap.size U w') (U.drew):=(Below.refl _ _).drew
   try dsimp only at hS
   obtain ⟨y0,hy0⟩ : ∃ y,U.drew = y:=⟨_,rfl⟩
   rw [hy0] at hS ⊢
   clear hy0
   refine AnyG.takeC (i:=1) (v:=?_) rfl (by kernel_rfl) (fun _ _ _ h => h) rfl ?_ hS ?_
   rotate_left
   ·(intro w' hSw; (try dsimp only at hSw); obtain ⟨l0,l1,l2,l3,lf2,lz⟩:=(HK1.out.call (hBV.trans (hSw.mono hBV.size))).four; go_simp; try with_reducible rfl)
   try simp only [Act.put,Sp1,Sp2,Sp3,Sp4,Sp5,Sp6]
   refine AnyG.takeC (i:=3) (v:=?_) rfl (by kernel_rfl) (fun _ _ _ h => h) rfl ?_ hS ?_
   rotate_left
   ·(intro w' hSw; (try dsimp only at hSw); go_simp; try with_reducible rfl)
   try simp only [Act.put,Sp1,Sp2,Sp3,Sp4,Sp5,Sp6]
   refine AnyG.takeC (i:=4) (v:=?_) rfl (by kernel_rfl) (fun _ _ _ h => h) rfl ?_ hS ?_
   rotate_left
   ·(intro w' hSw; (try dsimp only at hSw); have p0x:=cellC (hBV.trans (hSw.mono hBV.size)) p0; have p1x:=cellC (hBV.trans (hSw.mono hBV.size)) p1; have p2x:=cellC (hBV.trans (hSw.mono hBV.size)) p2; have p3x:=cellC (hBV.trans (hSw.mono hBV.size)) p3; go_simp; try with_reducible rfl)
   try simp only [Act.put,Sp1,Sp2,Sp3,Sp4,Sp5,Sp6]
   refine AnyG.takeC (i:=6) (v:=?_) rfl (by kernel_rfl) (fun _ _ _ h => h) rfl ?_ hS ?_
   rotate_left
   ·(intro w' hSw; (try dsimp only at hSw); obtain ⟨m0,m1,m2,m3,mf,mz⟩:=(HK2.out.call (hBV.trans (hSw.mono hBV.size))).four; go_simp; try with_reducible rfl)
   try simp only [Act.put,Sp1,Sp2,Sp3,Sp4,Sp5,Sp6]
   refine AnyG.takeC (i:=8) (v:=?_) rfl (by kernel_rfl) (fun _ _ _ h => h) rfl ?_ hS ?_
   rotate_left
   ·(intro w' hSw; (try dsimp only at hSw); go_simp; try with_reducible rfl)
   try simp only [Act.put,Sp1,Sp2,Sp3,Sp4,Sp5,Sp6]
   refine AnyG.takeC (i:=9) (v:=?_) rfl (by kernel_rfl) (fun _ _ _ h => h) rfl ?_ hS ?_
   rotate_left
   ·(intro w' hSw; (try dsimp only at hSw); have r0x:=cellC (hBV.trans (hSw.mono hBV.size)) r0; have r1x:=cellC (hBV.trans (hSw.mono hBV.size)) r1; have r2x:=cellC (hBV.trans (hSw.mono hBV.size)) r2; have r3x:=cellC (hBV.trans (hSw.mono hBV.size)) r3; go_simp; try with_reducible rfl)
   try simp only [Act.put,Sp1,Sp2,Sp3,Sp4,Sp5,Sp6]
   refine AnyG.all (rs:=[10,11]) (by kernel_rfl) (by simp) ?_
   intro ii hii
   simp only [List.mem_cons,List.not_mem_nil,or_false] at hii
   rcases hii with rfl | rfl
   ·refine ⟨_,rfl,rfl,?_⟩
    go_simp
    have c12:=Bx.new y0 42 #[.slice none 0 0,.int .i64 0,.int .i64 0,.int .i64 0]
    have hT:=hS.alloc hS.size (.cells #[.slice none 0 0,.int .i64 0,.int .i64 0,.int .i64 0] 42)
    have hl10:=hS.size
    obtain ⟨z10,hy⟩ : ∃ x,y0.alloc (.cells #[.slice none 0 0,.int .i64 0,.int .i64 0,.int .i64 0] 42) = x:=⟨_,rfl⟩
    rw [hy] at c12 hT ⊢
    have hltc12:=c12.lt
    obtain ⟨bbc12,hbq⟩ : ∃ p,y0.heap.size = p:=⟨_,rfl⟩
    rw [hbq] at c12 hltc12 hl10 ⊢
    clear hy hbq
    have hSn:=hT
    clear hS
    refine Onward.on hSn (fun hS => ?_)
    try dsimp only at hS
    clear hSn
    try simp only [Act.put,Sp1,Sp2,Sp3,Sp4,Sp5,Sp6]
    refine AnyG.one (i:=11) (by kernel_rfl) rfl rfl ?_
    go_simp
    have c13:=Bx.new z10 42 #[.slice none 0 0,.int .i64 0,.int .i64 0,.int .i64 0]
    replace c12:=c12.alloc (.cells #[.slice none 0 0,.int .i64 0,.int .i64 0,.int .i64 0] 42)
    have hT:=hS.alloc hS.size (.cells #[.slice none 0 0,.int .i64 0,.int .i64 0,.int .i64 0] 42)
    have hl11:=hS.size
    have hne : z10.heap.size ≠ bbc12:=by have:=hltc12; omega
    obtain ⟨z11,hy⟩ : ∃ x,z10.alloc (.cells #[.slice none 0 0,.int .i64 0,.int .i64 0,.int .i64 0] 42) = x:=⟨_,rfl⟩
    rw [hy] at c12 c13 hT ⊢
    have hltc13:=c13.lt
    obtain ⟨bbc13,hbq⟩ : ∃ p,z10.heap.size = p:=⟨_,rfl⟩
    rw [hbq] at c13 hltc13 hl11 hne ⊢
    clear hy hbq
    have hSn:=hT
    clear hS
    refine Onward.on hSn (fun hS => ?_)
    try dsimp only at hS
    clear hSn
    try simp only [Act.put,Sp1,Sp2,Sp3,Sp4,Sp5,Sp6]
    refine AnyG.one (i:=12) (by kernel_rfl) rfl rfl ?_
    have hSa:=hS
    obtain ⟨s0,s1,s2,s3,sf,sz⟩:=c12.four
    go_simp
    clear s0 s1 s2 s3 sf sz
    have hSn:=(below4 hS hl10 (.slice G gr.length gc) (.int .i64 wt) (.int .i64 ct) (.int .i64 gt))
    clear hS
    refine Onward.on hSn (fun hS => ?_)
    try dsimp only at hS
    clear hSn
    try simp only [Act.put,Sp1,Sp2,Sp3,Sp4,Sp5,Sp6]
    refine AnyG.one (i:=13) (by kernel_rfl) rfl rfl ?_
    have c13q:=c13.far4 (b:=bbc12) (by omega) (.slice G gr.length gc) (.int .i64 wt) (.int .i64 ct) (.int .i64 gt)
    obtain ⟨s0,s1,s2,s3,sf,sz⟩:=c13q.four
    go_simp
    clear s0 s1 s2 s3 sf sz
    refine Onward.last rfl ?_
    try simp only [Act.put,Sp1,Sp2,Sp3,Sp4,Sp5,Sp6]
    refine AnyG.done (by kernel_rfl) ?_ _
    have q12:=(c12.set4 (.slice G gr.length gc) (.int .i64 wt) (.int .i64 ct) (.int .i64 gt)).far4 (b:=bbc13) (by omega) (.slice G2 gr.length gc2) (.int .i64 wt) (.int .i64 ct) (.int .i64 gt)
    have q13:=(c13.far4 (b:=bbc12) (by omega) (.slice G gr.length gc) (.int .i64 wt) (.int .i64 ct) (.int .i64 gt)).set4 (.slice G2 gr.length gc2) (.int .i64 wt) (.int .i64 ct) (.int .i64 gt)
    have hBz:=below4 (below4 (hBV.trans (hSa.mono hBV.size)) (b:=bbc12) (by have:=hBV.size; omega) (.slice G gr.length gc) (.int .i64 wt) (.int .i64 ct) (.int .i64 gt)) (b:=bbc13) (by have:=hBV.size; omega) (.slice G2 gr.length gc2) (.int .i64 wt) (.int .i64 ct) (.int .i64 gt)
    go_simp
    obtain ⟨W9,hW9⟩ : ∃ X,((((((((z11.setCell ⟨bbc12,0,none⟩ (.slice G gr.length gc)).setCell ⟨bbc12,1,none⟩ (.int .i64 wt)).setCell ⟨bbc12,2,none⟩ (.int .i64 ct)).setCell ⟨bbc12,3,none⟩ (.int .i64 gt)).setCell ⟨bbc13,0,none⟩ (.slice G2 gr.length gc2)).setCell ⟨bbc13,1,none⟩ (.int .i64 wt)).setCell ⟨bbc13,2,none⟩ (.int .i64 ct)).setCell ⟨bbc13,3,none⟩ (.int .i64 gt)) = X:=⟨_,rfl⟩
    rw [hW9] at q12 q13 hBz ⊢
    clear hW9
    obtain ⟨b0,b1,b2,b3,bf,bz⟩:=q12.four
    obtain ⟨d0,d1,d2,d3,df,dz⟩:=q13.four
    go_wp2_with (first | (go_at_call 75; refine (equalRanges_any G gr.length gc G2 gr.length gc2 gr gr _ (by omega) (by omega) rfl rfl ((hgs.below hBz).more hBz.size) ((hgs2.below hBz).more hBz.size)).mono ?_; rintro e xw ⟨rfl,hx⟩; rw [show decide (gr = gr) = true by simp]; have q12':=q12.call hx; have q13':=q13.call hx; have hBq:=hBz.trans (hx.mono hBz.size); clear b0 b1 b2 b3 bf bz d0 d1 d2 d3 df dz; obtain ⟨b0,b1,b2,b3,bf,bz⟩:=q12'.four; obtain ⟨d0,d1,d2,d3,df,dz⟩:=q13'.four) | fail)
    go_roundw
    case rel => exact ⟨i + 1,by go_num,by omega,rfl,hBq⟩
    case measure => simp [intOf]; omega
   ·refine ⟨_,rfl,rfl,?_⟩
    go_simp
    have c13:=Bx.new y0 42 #[.slice none 0 0,.int .i64 0,.int .i64 0,.int .i64 0]
    have hT:=hS.alloc hS.size (.cells #[.slice none 0 0,.int .i64 0,.int .i64 0,.int .i64 0] 42)
    have hl11:=hS.size
    obtain ⟨z11,hy⟩ : ∃ x,y0.alloc (.cells #[.slice none 0 0,.int .i64 0,.int .i64 0,.int .i64 0] 42) = x:=⟨_,rfl⟩
    rw [hy] at c13 hT ⊢
    have hltc13:=c13.lt
    obtain ⟨bbc13,hbq⟩ : ∃ p,y0.heap.size = p:=⟨_,rfl⟩
    rw [hbq] at c13 hltc13 hl11 ⊢
    clear hy hbq
    have hSn:=hT
    clear hS
    refine Onward.on hSn (fun hS => ?_)
    try dsimp only at hS
    clear hSn
    try simp only [Act.put,Sp1,Sp2,Sp3,Sp4,Sp5,Sp6]
    refine AnyG.one (i:=10) (by kernel_rfl) rfl rfl ?_
    go_simp
    have c12:=Bx.new z11 42 #[.slice none 0 0,.int .i64 0,.int .i64 0,.int .i64 0]
    replace c13:=c13.alloc (.cells #[.slice none 0 0,.int .i64 0,.int .i64 0,.int .i64 0] 42)
    have hT:=hS.alloc hS.size (.cells #[.slice none 0 0,.int .i64 0,.int .i64 0,.int .i64 0] 42)
    have hl10:=hS.size
    have hne : z11.heap.size ≠ bbc13:=by have:=hltc13; omega
    obtain ⟨z10,hy⟩ : ∃ x,z11.alloc (.cells #[.slice none 0 0,.int .i64 0,.int .i64 0,.int .i64 0] 42) = x:=⟨_,rfl⟩
    rw [hy] at c13 c12 hT ⊢
    have hltc12:=c12.lt
    obtain ⟨bbc12,hbq⟩ : ∃ p,z11.heap.size = p:=⟨_,rfl⟩
    rw [hbq] at c12 hltc12 hl10 hne ⊢
    clear hy hbq
    have hSn:=hT
    clear hS
    refine Onward.on hSn (fun hS => ?_)
    try dsimp only at hS
    clear hSn
    try simp only [Act.put,Sp1,Sp2,Sp3,Sp4,Sp5,Sp6]
    refine AnyG.one (i:=12) (by kernel_rfl) rfl rfl ?_
    have hSa:=hS
    obtain ⟨s0,s1,s2,s3,sf,sz⟩:=c12.four
    go_simp
    clear s0 s1 s2 s3 sf sz
    have hSn:=(below4 hS hl10 (.slice G gr.length gc) (.int .i64 wt) (.int .i64 ct) (.int .i64 gt))
    clear hS
    refine Onward.on hSn (fun hS => ?_)
    try dsimp only at hS
    clear hSn
    try simp only [Act.put,Sp1,Sp2,Sp3,Sp4,Sp5,Sp6]
    refine AnyG.one (i:=13) (by kernel_rfl) rfl rfl ?_
    have c13q:=c13.far4 (b:=bbc12) (by omega) (.slice G gr.length gc) (.int .i64 wt) (.int .i64 ct) (.int .i64 gt)
    obtain ⟨s0,s1,s2,s3,sf,sz⟩:=c13q.four
    go_simp
    clear s0 s1 s2 s3 sf sz
    refine Onward.last rfl ?_
    try simp only [Act.put,Sp1,Sp2,Sp3,Sp4,Sp5,Sp6]
    refine AnyG.done (by kernel_rfl) ?_ _
    have q12:=(c12.set4 (.slice G gr.length gc) (.int .i64 wt) (.int .i64 ct) (.int .i64 gt)).far4 (b:=bbc13) (by omega) (.slice G2 gr.length gc2) (.int .i64 wt) (.int .i64 ct) (.int .i64 gt)
    have q13:=(c13.far4 (b:=bbc12) (by omega) (.slice G gr.length gc) (.int .i64 wt) (.int .i64 ct) (.int .i64 gt)).set4 (.slice G2 gr.length gc2) (.int .i64 wt) (.int .i64 ct) (.int .i64 gt)
    have hBz:=below4 (below4 (hBV.trans (hSa.mono hBV.size)) (b:=bbc12) (by have:=hBV.size; omega) (.slice G gr.length gc) (.int .i64 wt) (.int .i64 ct) (.int .i64 gt)) (b:=bbc13) (by have:=hBV.size; omega) (.slice G2 gr.length gc2) (.int .i64 wt) (.int .i64 ct) (.int .i64 gt)
    go_simp
    obtain ⟨W9,hW9⟩ : ∃ X,((((((((z10.setCell ⟨bbc12,0,none⟩ (.slice G gr.length gc)).setCell ⟨bbc12,1,none⟩ (.int .i64 wt)).setCell ⟨bbc12,2,none⟩ (.int .i64 ct)).setCell ⟨bbc12,3,none⟩ (.int .i64 gt)).setCell ⟨bbc13,0,none⟩ (.slice G2 gr.length gc2)).setCell ⟨bbc13,1,none⟩ (.int .i64 wt)).setCell ⟨bbc13,2,none⟩ (.int .i64 ct)).setCell ⟨bbc13,3,none⟩ (.int .i64 gt)) = X:=⟨_,rfl⟩
    rw [hW9] at q12 q13 hBz ⊢
    clear hW9
    obtain ⟨b0,b1,b2,b3,bf,bz⟩:=q12.four
    obtain ⟨d0,d1,d2,d3,df,dz⟩:=q13.four
    go_wp2_with (first | (go_at_call 75; refine (equalRanges_any G gr.length gc G2 gr.length gc2 gr gr _ (by omega) (by omega) rfl rfl ((hgs.below hBz).more hBz.size) ((hgs2.below hBz).more hBz.size)).mono ?_; rintro e xw ⟨rfl,hx⟩; rw [show decide (gr = gr) = true by simp]; have q12':=q12.call hx; have q13':=q13.call hx; have hBq:=hBz.trans (hx.mono hBz.size); clear b0 b1 b2 b3 bf bz d0 d1 d2 d3 df dz; obtain ⟨b0,b1,b2,b3,bf,bz⟩:=q12'.four; obtain ⟨d0,d1,d2,d3,df,dz⟩:=q13'.four) | fail)
    go_roundw
    case rel => exact ⟨i + 1,by go_num,by omega,rfl,hBq⟩
    case measure => simp [intOf]; omega
  ·obtain rfl : i = bn:=by omega
   go_wp2_with fail
   go_ret
   exact ⟨rfl,B0.trans (hBV.mono B0.size)⟩
end Go.Proofs.Ytmemcopfeabcgaa
