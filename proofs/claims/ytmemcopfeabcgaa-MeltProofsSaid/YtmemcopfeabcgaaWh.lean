/- swarfref06.whole: the whole box. -/
import Derived.Test.YtmemcopfeabcgaaWf
set_option linter.unusedSimpArgs false
set_option linter.unusedVariables false
namespace Go.Proofs.Ytmemcopfeabcgaa
open Go Go.RowKit
theorem ne_step {a b c : Option Nat} {N : Nat} (h : a = none ∨ a ≠ b) (hlt : ∀ q,b = some q → q < N) (r : c = a ∨ ∀ k,c = some k → N ≤ k) : c = none ∨ c ≠ b:=by
 rcases r with rfl | r
 ·exact h
 ·cases c with
  | none => exact .inl rfl
  | some q => exact .inr fun e => by have:=r q rfl; have:=hlt q e.symm; omega
theorem ne_turn {a b : Option Nat} (h : a = none ∨ a ≠ b) : b = none ∨ b ≠ a:=by
 rcases h with rfl | h
 ·cases b with
  | none => exact .inl rfl
  | some q => exact .inr fun e => by cases e
 ·exact .inr (Ne.symm h)
theorem lf_zer {n : Nat} : lf (rowOf zer n) = zer:=by
 funext i
 by_cases h : i < n
 ·exact lf_row _ h
 ·exact lf_out (by rw [rowOf_len]; omega)
theorem lf_mx {o : Od} : lf (rowOf o.mx o.bs.length) = o.mx:=by
 funext i
 by_cases h : i < o.bs.length
 ·exact lf_row _ h
 ·rw [lf_out (by rw [rowOf_len]; omega)]
  unfold Od.mx Od.bn
  rw [List.getD_eq_getElem?_getD,List.getElem?_eq_none (by omega)]
  rfl
set_option maxRecDepth 100000 in
set_option maxHeartbeats 8000000 in
theorem refWhole_any (LA : Option Addr) (ln lc : Nat) (BA : Option Addr) (bn bc : Nat) (o : Od) (w : World) (hl : o.lm.length = ln) (hb' : o.bs.length = bn) (hA : OrdAt w w.heap.size LA BA o) (ho : o.Ok) :
  Calls Try.prog 79 #[.agg #[.slice LA ln lc,.int .i64 o.le,.int .i64 o.mo,.slice BA bn bc]] w fun e w' => (∃ (A : Option Addr) (ac : Nat) (D : Option Addr) (dc : Nat),e = .returned (.agg #[.slice A bn ac,.slice D bn dc]) ∧ Sl w' w'.heap.size 1 A (inr (rowOf zer bn)) ∧ Sl w' w'.heap.size 1 D (inr (rowOf o.mx bn))) ∧ Below w.heap.size w w':=by
 have hbn4 : bn ≤ 4:=by rw [← hb']; exact ho.b2
 have k1:=((Bx.new w 27 #[.slice LA ln lc,.int .i64 o.le,.int .i64 o.mo,.slice BA bn bc]).alloc (.cells #[.slice none 0 0,.slice none 0 0] 119)).alloc (.cells #[.slice none 0 0,.slice none 0 0] 119)
 have k2:=(Bx.at (w.alloc (.cells #[.slice LA ln lc,.int .i64 o.le,.int .i64 o.mo,.slice BA bn bc] 27)) 119 #[.slice none 0 0,.slice none 0 0] (n:=w.heap.size + 1) (by simp)).alloc (.cells #[.slice none 0 0,.slice none 0 0] 119)
 have k3:=Bx.at ((w.alloc (.cells #[.slice LA ln lc,.int .i64 o.le,.int .i64 o.mo,.slice BA bn bc] 27)).alloc (.cells #[.slice none 0 0,.slice none 0 0] 119)) 119 #[.slice none 0 0,.slice none 0 0] (n:=w.heap.size + 1 + 1) (by simp)
 have B0:=(((Below.refl w.heap.size w).alloc (Nat.le_refl _) (.cells #[.slice LA ln lc,.int .i64 o.le,.int .i64 o.mo,.slice BA bn bc] 27)).alloc (by simp) (.cells #[.slice none 0 0,.slice none 0 0] 119)).alloc (by simp; omega) (.cells #[.slice none 0 0,.slice none 0 0] 119)
 obtain ⟨V,hV⟩ : ∃ V,((w.alloc (.cells #[.slice LA ln lc,.int .i64 o.le,.int .i64 o.mo,.slice BA bn bc] 27)).alloc (.cells #[.slice none 0 0,.slice none 0 0] 119)).alloc (.cells #[.slice none 0 0,.slice none 0 0] 119) = V:=⟨_,rfl⟩
 rw [hV] at k1 k2 k3 B0
 have HB:=Lib.hid hb'
 have HL:=Lib.hid hl
 have HO:=Lib.hid ho
 have HV:=Lib.hid hV
 clear hV hb' hl ho
 obtain ⟨i3,hi3,hz3,hs3,iy3⟩:=info_parts info3'
 obtain ⟨b0,hb0⟩ : ∃ b,w.heap.size = b:=⟨_,rfl⟩
 have hb0w : b0 ≤ w.heap.size:=by omega
 rw [hb0] at k1 k2 k3
 have HB0:=Lib.hid hb0
 clear hb0
 go_enter Try.func79,Try.ntmps79
 go_upto_region 2 with fail
 rw [HV.out,HB0.out]
 go_wp2_with fail
 go_loopw [4] (fun v wr => ∃ (i : Nat) (PA : Option Addr) (pc : Nat) (QA : Option Addr) (qc : Nat),v = .int .i64 i ∧ i ≤ bn ∧ wr.ownsRow w.heap.size 3 1 (.slice PA i pc) i (inr (rowOf zer i)).flatten ∧ wr.ownsRow w.heap.size 3 1 (.slice QA i qc) i (inr (rowOf o.mx i)).flatten ∧ ((Value.slice PA i pc).ownBlock = none ∨ (Value.slice PA i pc).ownBlock ≠ (Value.slice QA i qc).ownBlock) ∧ Below w.heap.size w wr ∧ Bx wr b0 27 #[.slice LA ln lc,.int .i64 o.le,.int .i64 o.mo,.slice BA bn bc] ∧ Bx wr (b0 + 1) 119 #[.slice none 0 0,.slice none 0 0] ∧ Bx wr (b0 + 1 + 1) 119 #[.slice PA i pc,.slice QA i qc]) (fun v _ => bn - (intOf v).toNat)
 case atStart => exact ⟨0,none,0,none,0,rfl,by omega,World.ownsRow_nil _ _ _ _,World.ownsRow_nil _ _ _ _,.inl rfl,B0,k1,k2,k3⟩
 case round =>
  clear k1 k2 k3 B0
  obtain ⟨i,PA,pc,QA,qc,rfl,hi,oP,oQ,hne,B0,k1,k2,k3⟩:=hrel
  obtain ⟨l0,l1,l2,l3,lf',lz⟩:=k1.four
  by_cases hin : i < bn
  ·have hio : i < o.bs.length:=by rw [HB.out]; exact hin
   obtain ⟨ba,G,gc,rfl,hba,p0,p1,p2,p3,hgs⟩:=hA.bs.at_ hio
   rw [Od.bn_eq hio] at p3
   have hmx : (o.bn i).g = o.mx i:=rfl
   rw [hmx] at p3
   have hiw : IntKind.i64.wrap ((i : Int) + 1) = (i : Int) + 1:=IntWalk.i64_in _ (by omega)
   obtain ⟨gx,hgx⟩ : ∃ x,o.mx i = x:=⟨_,rfl⟩
   rw [hgx] at p3
   have HGX:=Lib.hid hgx
   have eP : rowOf zer (i + 1) = rowOf zer i ++ [0]:=rowOf_succ _ _
   have eQ : rowOf o.mx (i + 1) = rowOf o.mx i ++ [gx]:=by rw [rowOf_succ,hgx]
   have HEP:=Lib.hid eP
   have HEQ:=Lib.hid eQ
   have HNE:=Lib.hid hne
   clear p0 p1 p2 hgs hmx hgx eP eQ hne
   go_wp2_with fail
   clear l0 l1 l2 l3 lf' lz
   replace oP:=oP.drew
   replace oQ:=oQ.drew
   refine AnyG.startC (by kernel_rfl) ?_
   refine AnyG.takeP (i:=0) (v:=?_) rfl (by kernel_rfl) (fun _ _ _ h => h) rfl ?_ ?_
   rotate_left
   ·(intro w'; go_simp; try with_reducible rfl)
   try simp only [Act.put,Sp1,Sp2,Sp3,Sp4,Sp5,Sp6]
   refine AnyG.takeP (i:=4) (v:=?_) rfl (by kernel_rfl) (fun _ _ _ h => h) rfl ?_ ?_
   rotate_left
   ·(intro w'; go_simp; try with_reducible rfl)
   try simp only [Act.put,Sp1,Sp2,Sp3,Sp4,Sp5,Sp6]
   refine AnyG.takeP (i:=6) (v:=?_) rfl (by kernel_rfl) (fun _ _ _ h => h) rfl ?_ ?_
   rotate_left
   ·(intro w'; go_simp; try with_reducible rfl)
   try simp only [Act.put,Sp1,Sp2,Sp3,Sp4,Sp5,Sp6]
   refine AnyG.takeP (i:=8) (v:=?_) rfl (by kernel_rfl) (fun _ _ _ h => h) rfl ?_ ?_
   rotate_left
   ·(intro w'; go_simp; try with_reducible rfl)
   try simp only [Act.put,Sp1,Sp2,Sp3,Sp4,Sp5,Sp6]
   refine AnyG.enter (fun w' : World => Below w.heap.size w w' ∧ Bx w' b0 27 #[.slice LA ln lc,.int .i64 o.le,.int .i64 o.mo,.slice (some ba) bn bc] ∧ Bx w' (b0 + 1) 119 #[.slice none 0 0,.slice none 0 0] ∧ Bx w' (b0 + 1 + 1) 119 #[.slice PA i pc,.slice QA i qc]) (fun i => i != 15 && i != 16 && i != 17) ?_
   have hS : (fun w' : World => Below w.heap.size w w' ∧ Bx w' b0 27 #[.slice LA ln lc,.int .i64 o.le,.int .i64 o.mo,.slice (some ba) bn bc] ∧ Bx w' (b0 + 1) 119 #[.slice none 0 0,.slice none 0 0] ∧ Bx w' (b0 + 1 + 1) 119 #[.slice PA i pc,.slice QA i qc]) (wr.drew):=⟨B0.drew,k1.drew,k2.drew,k3.drew⟩
   try dsimp only at hS
   obtain ⟨y0,hy0⟩ : ∃ y,wr.drew = y:=⟨_,rfl⟩
   rw [hy0] at hS oP oQ ⊢
   clear hy0
   refine AnyG.takeC (i:=1) (v:=?_) rfl (by kernel_rfl) (fun _ _ _ h => h) rfl ?_ hS ?_
   rotate_left
   ·(intro w' hSw; (try dsimp only at hSw); obtain ⟨x0,x1,xf,xz⟩:=hSw.2.2.2.two; go_simp; try with_reducible rfl)
   try simp only [Act.put,Sp1,Sp2,Sp3,Sp4,Sp5,Sp6]
   refine AnyG.takeC (i:=5) (v:=?_) rfl (by kernel_rfl) (fun _ _ _ h => h) rfl ?_ hS ?_
   rotate_left
   ·(intro w' hSw; (try dsimp only at hSw); obtain ⟨x0,x1,xf,xz⟩:=hSw.2.2.2.two; go_simp; try with_reducible rfl)
   try simp only [Act.put,Sp1,Sp2,Sp3,Sp4,Sp5,Sp6]
   refine AnyG.takeC (i:=7) (v:=?_) rfl (by kernel_rfl) (fun _ _ _ h => h) rfl ?_ hS ?_
   rotate_left
   ·(intro w' hSw; (try dsimp only at hSw); obtain ⟨l0,l1,l2,l3,lf2,lz⟩:=hSw.2.1.four; go_simp; try with_reducible rfl)
   try simp only [Act.put,Sp1,Sp2,Sp3,Sp4,Sp5,Sp6]
   refine AnyG.takeC (i:=9) (v:=?_) rfl (by kernel_rfl) (fun _ _ _ h => h) rfl ?_ hS ?_
   rotate_left
   ·(intro w' hSw; (try dsimp only at hSw); go_simp; try with_reducible rfl)
   try simp only [Act.put,Sp1,Sp2,Sp3,Sp4,Sp5,Sp6]
   refine AnyG.takeC (i:=10) (v:=?_) rfl (by kernel_rfl) (fun _ _ _ h => h) rfl ?_ hS ?_
   rotate_left
   ·(intro w' hSw; (try dsimp only at hSw); go_simp; try with_reducible rfl)
   try simp only [Act.put,Sp1,Sp2,Sp3,Sp4,Sp5,Sp6]
   refine AnyG.takeC (i:=11) (v:=?_) rfl (by kernel_rfl) (fun _ _ _ h => h) rfl ?_ hS ?_
   rotate_left
   ·(intro w' hSw; (try dsimp only at hSw); have q:=cellL hSw.1 (by simpa [add_block] using hba) p3; go_simp; try with_reducible rfl)
   try simp only [Act.put,Sp1,Sp2,Sp3,Sp4,Sp5,Sp6]
   refine AnyG.all (rs:=[2,12]) (by kernel_rfl) (by simp) ?_
   intro ii hii
   simp only [List.mem_cons,List.not_mem_nil,or_false] at hii
   rcases hii with rfl | rfl
   ·refine ⟨_,rfl,rfl,?_⟩
    go_simp
    have k14:=Bx.new y0 3 #[.int .i64 0]
    have k14_oP : some y0.heap.size ≠ (Value.slice PA i pc).ownBlock:=fun h => by have:=(oP.lt _ h.symm).2; omega
    replace oP:=oP.alloc (.cells #[.int .i64 0] 3)
    have k14_oQ : some y0.heap.size ≠ (Value.slice QA i qc).ownBlock:=fun h => by have:=(oQ.lt _ h.symm).2; omega
    replace oQ:=oQ.alloc (.cells #[.int .i64 0] 3)
    have hN : _ ∧ _ ∧ _ ∧ _:=⟨hS.1.alloc hS.1.size (.cells #[.int .i64 0] 3),hS.2.1.alloc (.cells #[.int .i64 0] 3),hS.2.2.1.alloc (.cells #[.int .i64 0] 3),hS.2.2.2.alloc (.cells #[.int .i64 0] 3)⟩
    obtain ⟨z2,hy⟩ : ∃ x,y0.alloc (.cells #[.int .i64 0] 3) = x:=⟨_,rfl⟩
    rw [hy] at k14 oP oQ hN ⊢
    obtain ⟨b14,hbq⟩ : ∃ p,y0.heap.size = p:=⟨_,rfl⟩
    rw [hbq] at k14 k14_oP k14_oQ ⊢
    clear hy hbq
    have hSn:=hN
    clear hS
    refine Onward.on hSn (fun hS => ?_)
    try dsimp only at hS
    clear hSn
    try simp only [Act.put,Sp1,Sp2,Sp3,Sp4,Sp5,Sp6]
    refine AnyG.all (rs:=[3,12]) (by kernel_rfl) (by simp) ?_
    intro ii hii
    simp only [List.mem_cons,List.not_mem_nil,or_false] at hii
    rcases hii with rfl | rfl
    ·refine ⟨_,rfl,rfl,?_⟩
     refine wp_app3 (.tmp 13) (.tmp 14) 22 rfl w.heap.size 3 i3 _ 1 8 Try.underlying22 hi3 hz3 hs3 iy3 rfl (by decide) (.slice PA i pc) i (inr (rowOf zer i)).flatten (by simp [Act.eval]) oP (some ⟨b14,0,none⟩) 1 1 [.int .i64 0] (by simp [Act.eval]) rfl (fun j u hu => ⟨_,rfl,bx_news k14 j u hu⟩) (by simp [Value.oneCell']) (by unfold maxLen; omega) (by omega) hS.1.size ?_
     intro v15 z3 o15 g3 x3 r3
     obtain ⟨A15,c15,rfl⟩:=own_shape o15
     rw [← inr_snoc,← HEP.out] at o15
     have ne3:=ne_step HNE.out (fun q e => (oQ.lt q e).2) r3
     replace oQ:=oQ.kept g3 (ne_turn HNE.out)
     have hSn:=(show _ ∧ _ ∧ _ ∧ _ from ⟨hS.1.grown g3 hS.1.size (fun q e => (oP.lt q e).1),hS.2.1.grown g3 (own_bx oP hS.2.1 (by decide)),hS.2.2.1.grown g3 (own_bx oP hS.2.2.1 (by decide)),hS.2.2.2.grown g3 (own_bx oP hS.2.2.2 (by decide))⟩)
     clear hS
     refine Onward.on hSn (fun hS => ?_)
     try dsimp only at hS
     clear hSn
     try simp only [Act.put,Sp1,Sp2,Sp3,Sp4,Sp5,Sp6]
     refine AnyG.takeC (i:=14) (v:=?_) rfl (by kernel_rfl) (fun _ _ _ h => h) rfl ?_ hS ?_
     rotate_left
     ·(intro w' hSw; (try dsimp only at hSw); go_simp; try with_reducible rfl)
     try simp only [Act.put,Sp1,Sp2,Sp3,Sp4,Sp5,Sp6]
     refine AnyG.one (i:=12) (by kernel_rfl) rfl rfl ?_
     go_simp
     have k24:=Bx.new z3 3 #[.int .i64 gx]
     have k24_oQ : some z3.heap.size ≠ (Value.slice QA i qc).ownBlock:=fun h => by have:=(oQ.lt _ h.symm).2; omega
     replace oQ:=oQ.alloc (.cells #[.int .i64 gx] 3)
     have k24_o15 : some z3.heap.size ≠ (Value.slice A15 (i + 1) c15).ownBlock:=fun h => by have:=(o15.lt _ h.symm).2; omega
     replace o15:=o15.alloc (.cells #[.int .i64 gx] 3)
     have hN : _ ∧ _ ∧ _ ∧ _:=⟨hS.1.alloc hS.1.size (.cells #[.int .i64 gx] 3),hS.2.1.alloc (.cells #[.int .i64 gx] 3),hS.2.2.1.alloc (.cells #[.int .i64 gx] 3),hS.2.2.2.alloc (.cells #[.int .i64 gx] 3)⟩
     obtain ⟨z12,hy⟩ : ∃ x,z3.alloc (.cells #[.int .i64 gx] 3) = x:=⟨_,rfl⟩
     rw [hy] at k24 oQ o15 hN ⊢
     obtain ⟨b24,hbq⟩ : ∃ p,z3.heap.size = p:=⟨_,rfl⟩
     rw [hbq] at k24 k24_oQ k24_o15 ⊢
     clear hy hbq
     have hSn:=hN
     clear hS
     refine Onward.on hSn (fun hS => ?_)
     try dsimp only at hS
     clear hSn
     try simp only [Act.put,Sp1,Sp2,Sp3,Sp4,Sp5,Sp6]
     refine AnyG.one (i:=13) (by kernel_rfl) rfl rfl ?_
     refine wp_app3 (.tmp 17) (.tmp 24) 22 rfl w.heap.size 3 i3 _ 1 8 Try.underlying22 hi3 hz3 hs3 iy3 rfl (by decide) (.slice QA i qc) i (inr (rowOf o.mx i)).flatten (by simp [Act.eval]) oQ (some ⟨b24,0,none⟩) 1 1 [.int .i64 gx] (by simp [Act.eval]) rfl (fun j u hu => ⟨_,rfl,bx_news k24 j u hu⟩) (by simp [Value.oneCell']) (by unfold maxLen; omega) (by omega) hS.1.size ?_
     intro v25 z13 o25 g13 x13 r13
     obtain ⟨A25,c25,rfl⟩:=own_shape o25
     rw [← inr_snoc,← HEQ.out] at o25
     have ne13:=ne_turn (ne_step (ne_turn ne3) (fun q e => (o15.lt q e).2) r13)
     replace o15:=o15.kept g13 ne3
     have hSn:=(show _ ∧ _ ∧ _ ∧ _ from ⟨hS.1.grown g13 hS.1.size (fun q e => (oQ.lt q e).1),hS.2.1.grown g13 (own_bx oQ hS.2.1 (by decide)),hS.2.2.1.grown g13 (own_bx oQ hS.2.2.1 (by decide)),hS.2.2.2.grown g13 (own_bx oQ hS.2.2.2 (by decide))⟩)
     clear hS
     refine Onward.on hSn (fun hS => ?_)
     try dsimp only at hS
     clear hSn
     try simp only [Act.put,Sp1,Sp2,Sp3,Sp4,Sp5,Sp6]
     refine AnyG.one (i:=15) (by kernel_rfl) rfl rfl ?_
     obtain ⟨x0,x1,xf,xz⟩:=hS.2.2.2.two
     go_simp
     refine Onward.last rfl ?_
     try simp only [Act.put,Sp1,Sp2,Sp3,Sp4,Sp5,Sp6]
     refine AnyG.one (i:=16) (by kernel_rfl) rfl rfl ?_
     go_simp
     refine Onward.last rfl ?_
     try simp only [Act.put,Sp1,Sp2,Sp3,Sp4,Sp5,Sp6]
     refine AnyG.one (i:=17) (by kernel_rfl) rfl rfl ?_
     go_simp
     refine Onward.last rfl ?_
     try simp only [Act.put,Sp1,Sp2,Sp3,Sp4,Sp5,Sp6]
     refine AnyG.done (by kernel_rfl) ?_ _
     go_simp
     obtain ⟨B9,k19,k29,k39⟩:=hS
     have s1:=k39.set_ 0 (.slice A15 (i + 1) c15)
     have s2:=s1.set_ 1 (.slice A25 (i + 1) c25)
     have a1:=own_set o15 (own_bx o15 k39 (by decide)) (o:=0) (.slice A15 (i + 1) c15)
     have a2:=own_set a1 (own_bx a1 s1 (by decide)) (o:=1) (.slice A25 (i + 1) c25)
     have c1:=own_set o25 (own_bx o25 k39 (by decide)) (o:=0) (.slice A15 (i + 1) c15)
     have c2:=own_set c1 (own_bx c1 s1 (by decide)) (o:=1) (.slice A25 (i + 1) c25)
     have B10:=(B9.setCell (p:=⟨b0 + 1 + 1,0,none⟩) (by rw [HB0.out]; simp; omega) (.slice A15 (i + 1) c15)).setCell (p:=⟨b0 + 1 + 1,1,none⟩) (by rw [HB0.out]; simp; omega) (.slice A25 (i + 1) c25)
     have k1a:=(k19.far (p:=⟨b0 + 1 + 1,0,none⟩) (by simp; omega) (.slice A15 (i + 1) c15)).far (p:=⟨b0 + 1 + 1,1,none⟩) (by simp; omega) (.slice A25 (i + 1) c25)
     have k2a:=(k29.far (p:=⟨b0 + 1 + 1,0,none⟩) (by simp) (.slice A15 (i + 1) c15)).far (p:=⟨b0 + 1 + 1,1,none⟩) (by simp) (.slice A25 (i + 1) c25)
     have HNX:=Lib.hid ne13
     clear ne13
     go_wp2_with fail
     go_roundw
     case rel => exact ⟨i + 1,A15,c15,A25,c25,by go_num,by omega,a2,c2,HNX.out,B10,k1a,k2a,by simpa using s2⟩
     case measure => simp [intOf]; omega
    ·refine ⟨_,rfl,rfl,?_⟩
     go_simp
     have k24:=Bx.new z2 3 #[.int .i64 gx]
     have k24_oP : some z2.heap.size ≠ (Value.slice PA i pc).ownBlock:=fun h => by have:=(oP.lt _ h.symm).2; omega
     replace oP:=oP.alloc (.cells #[.int .i64 gx] 3)
     have k24_oQ : some z2.heap.size ≠ (Value.slice QA i qc).ownBlock:=fun h => by have:=(oQ.lt _ h.symm).2; omega
     replace oQ:=oQ.alloc (.cells #[.int .i64 gx] 3)
     replace k14:=k14.alloc (.cells #[.int .i64 gx] 3)
     have hN : _ ∧ _ ∧ _ ∧ _:=⟨hS.1.alloc hS.1.size (.cells #[.int .i64 gx] 3),hS.2.1.alloc (.cells #[.int .i64 gx] 3),hS.2.2.1.alloc (.cells #[.int .i64 gx] 3),hS.2.2.2.alloc (.cells #[.int .i64 gx] 3)⟩
     obtain ⟨z12,hy⟩ : ∃ x,z2.alloc (.cells #[.int .i64 gx] 3) = x:=⟨_,rfl⟩
     rw [hy] at k24 oP oQ k14 hN ⊢
     obtain ⟨b24,hbq⟩ : ∃ p,z2.heap.size = p:=⟨_,rfl⟩
     rw [hbq] at k24 k24_oP k24_oQ ⊢
     clear hy hbq
     have hSn:=hN
     clear hS
     refine Onward.on hSn (fun hS => ?_)
     try dsimp only at hS
     clear hSn
     try simp only [Act.put,Sp1,Sp2,Sp3,Sp4,Sp5,Sp6]
     refine AnyG.one (i:=3) (by kernel_rfl) rfl rfl ?_
     refine wp_app3 (.tmp 13) (.tmp 14) 22 rfl w.heap.size 3 i3 _ 1 8 Try.underlying22 hi3 hz3 hs3 iy3 rfl (by decide) (.slice PA i pc) i (inr (rowOf zer i)).flatten (by simp [Act.eval]) oP (some ⟨b14,0,none⟩) 1 1 [.int .i64 0] (by simp [Act.eval]) rfl (fun j u hu => ⟨_,rfl,bx_news k14 j u hu⟩) (by simp [Value.oneCell']) (by unfold maxLen; omega) (by omega) hS.1.size ?_
     intro v15 z3 o15 g3 x3 r3
     obtain ⟨A15,c15,rfl⟩:=own_shape o15
     rw [← inr_snoc,← HEP.out] at o15
     have ne3:=ne_step HNE.out (fun q e => (oQ.lt q e).2) r3
     replace oQ:=oQ.kept g3 (ne_turn HNE.out)
     replace k24:=k24.grown g3 k24_oP
     have hSn:=(show _ ∧ _ ∧ _ ∧ _ from ⟨hS.1.grown g3 hS.1.size (fun q e => (oP.lt q e).1),hS.2.1.grown g3 (own_bx oP hS.2.1 (by decide)),hS.2.2.1.grown g3 (own_bx oP hS.2.2.1 (by decide)),hS.2.2.2.grown g3 (own_bx oP hS.2.2.2 (by decide))⟩)
     clear hS
     refine Onward.on hSn (fun hS => ?_)
     try dsimp only at hS
     clear hSn
     try simp only [Act.put,Sp1,Sp2,Sp3,Sp4,Sp5,Sp6]
     refine AnyG.takeC (i:=14) (v:=?_) rfl (by kernel_rfl) (fun _ _ _ h => h) rfl ?_ hS ?_
     rotate_left
     ·(intro w' hSw; (try dsimp only at hSw); go_simp; try with_reducible rfl)
     try simp only [Act.put,Sp1,Sp2,Sp3,Sp4,Sp5,Sp6]
     refine AnyG.one (i:=13) (by kernel_rfl) rfl rfl ?_
     refine wp_app3 (.tmp 17) (.tmp 24) 22 rfl w.heap.size 3 i3 _ 1 8 Try.underlying22 hi3 hz3 hs3 iy3 rfl (by decide) (.slice QA i qc) i (inr (rowOf o.mx i)).flatten (by simp [Act.eval]) oQ (some ⟨b24,0,none⟩) 1 1 [.int .i64 gx] (by simp [Act.eval]) rfl (fun j u hu => ⟨_,rfl,bx_news k24 j u hu⟩) (by simp [Value.oneCell']) (by unfold maxLen; omega) (by omega) hS.1.size ?_
     intro v25 z13 o25 g13 x13 r13
     obtain ⟨A25,c25,rfl⟩:=own_shape o25
     rw [← inr_snoc,← HEQ.out] at o25
     have ne13:=ne_turn (ne_step (ne_turn ne3) (fun q e => (o15.lt q e).2) r13)
     replace o15:=o15.kept g13 ne3
     have hSn:=(show _ ∧ _ ∧ _ ∧ _ from ⟨hS.1.grown g13 hS.1.size (fun q e => (oQ.lt q e).1),hS.2.1.grown g13 (own_bx oQ hS.2.1 (by decide)),hS.2.2.1.grown g13 (own_bx oQ hS.2.2.1 (by decide)),hS.2.2.2.grown g13 (own_bx oQ hS.2.2.2 (by decide))⟩)
     clear hS
     refine Onward.on hSn (fun hS => ?_)
     try dsimp only at hS
     clear hSn
     try simp only [Act.put,Sp1,Sp2,Sp3,Sp4,Sp5,Sp6]
     refine AnyG.one (i:=15) (by kernel_rfl) rfl rfl ?_
     obtain ⟨x0,x1,xf,xz⟩:=hS.2.2.2.two
     go_simp
     refine Onward.last rfl ?_
     try simp only [Act.put,Sp1,Sp2,Sp3,Sp4,Sp5,Sp6]
     refine AnyG.one (i:=16) (by kernel_rfl) rfl rfl ?_
     go_simp
     refine Onward.last rfl ?_
     try simp only [Act.put,Sp1,Sp2,Sp3,Sp4,Sp5,Sp6]
     refine AnyG.one (i:=17) (by kernel_rfl) rfl rfl ?_
     go_simp
     refine Onward.last rfl ?_
     try simp only [Act.put,Sp1,Sp2,Sp3,Sp4,Sp5,Sp6]
     refine AnyG.done (by kernel_rfl) ?_ _
     go_simp
     obtain ⟨B9,k19,k29,k39⟩:=hS
     have s1:=k39.set_ 0 (.slice A15 (i + 1) c15)
     have s2:=s1.set_ 1 (.slice A25 (i + 1) c25)
     have a1:=own_set o15 (own_bx o15 k39 (by decide)) (o:=0) (.slice A15 (i + 1) c15)
     have a2:=own_set a1 (own_bx a1 s1 (by decide)) (o:=1) (.slice A25 (i + 1) c25)
     have c1:=own_set o25 (own_bx o25 k39 (by decide)) (o:=0) (.slice A15 (i + 1) c15)
     have c2:=own_set c1 (own_bx c1 s1 (by decide)) (o:=1) (.slice A25 (i + 1) c25)
     have B10:=(B9.setCell (p:=⟨b0 + 1 + 1,0,none⟩) (by rw [HB0.out]; simp; omega) (.slice A15 (i + 1) c15)).setCell (p:=⟨b0 + 1 + 1,1,none⟩) (by rw [HB0.out]; simp; omega) (.slice A25 (i + 1) c25)
     have k1a:=(k19.far (p:=⟨b0 + 1 + 1,0,none⟩) (by simp; omega) (.slice A15 (i + 1) c15)).far (p:=⟨b0 + 1 + 1,1,none⟩) (by simp; omega) (.slice A25 (i + 1) c25)
     have k2a:=(k29.far (p:=⟨b0 + 1 + 1,0,none⟩) (by simp) (.slice A15 (i + 1) c15)).far (p:=⟨b0 + 1 + 1,1,none⟩) (by simp) (.slice A25 (i + 1) c25)
     have HNX:=Lib.hid ne13
     clear ne13
     go_wp2_with fail
     go_roundw
     case rel => exact ⟨i + 1,A15,c15,A25,c25,by go_num,by omega,a2,c2,HNX.out,B10,k1a,k2a,by simpa using s2⟩
     case measure => simp [intOf]; omega
   ·refine ⟨_,rfl,rfl,?_⟩
    go_simp
    have k24:=Bx.new y0 3 #[.int .i64 gx]
    have k24_oP : some y0.heap.size ≠ (Value.slice PA i pc).ownBlock:=fun h => by have:=(oP.lt _ h.symm).2; omega
    replace oP:=oP.alloc (.cells #[.int .i64 gx] 3)
    have k24_oQ : some y0.heap.size ≠ (Value.slice QA i qc).ownBlock:=fun h => by have:=(oQ.lt _ h.symm).2; omega
    replace oQ:=oQ.alloc (.cells #[.int .i64 gx] 3)
    have hN : _ ∧ _ ∧ _ ∧ _:=⟨hS.1.alloc hS.1.size (.cells #[.int .i64 gx] 3),hS.2.1.alloc (.cells #[.int .i64 gx] 3),hS.2.2.1.alloc (.cells #[.int .i64 gx] 3),hS.2.2.2.alloc (.cells #[.int .i64 gx] 3)⟩
    obtain ⟨z12,hy⟩ : ∃ x,y0.alloc (.cells #[.int .i64 gx] 3) = x:=⟨_,rfl⟩
    rw [hy] at k24 oP oQ hN ⊢
    obtain ⟨b24,hbq⟩ : ∃ p,y0.heap.size = p:=⟨_,rfl⟩
    rw [hbq] at k24 k24_oP k24_oQ ⊢
    clear hy hbq
    have hSn:=hN
    clear hS
    refine Onward.on hSn (fun hS => ?_)
    try dsimp only at hS
    clear hSn
    try simp only [Act.put,Sp1,Sp2,Sp3,Sp4,Sp5,Sp6]
    refine AnyG.one (i:=2) (by kernel_rfl) rfl rfl ?_
    go_simp
    have k14:=Bx.new z12 3 #[.int .i64 0]
    have k14_oP : some z12.heap.size ≠ (Value.slice PA i pc).ownBlock:=fun h => by have:=(oP.lt _ h.symm).2; omega
    replace oP:=oP.alloc (.cells #[.int .i64 0] 3)
    have k14_oQ : some z12.heap.size ≠ (Value.slice QA i qc).ownBlock:=fun h => by have:=(oQ.lt _ h.symm).2; omega
    replace oQ:=oQ.alloc (.cells #[.int .i64 0] 3)
    replace k24:=k24.alloc (.cells #[.int .i64 0] 3)
    have hN : _ ∧ _ ∧ _ ∧ _:=⟨hS.1.alloc hS.1.size (.cells #[.int .i64 0] 3),hS.2.1.alloc (.cells #[.int .i64 0] 3),hS.2.2.1.alloc (.cells #[.int .i64 0] 3),hS.2.2.2.alloc (.cells #[.int .i64 0] 3)⟩
    obtain ⟨z2,hy⟩ : ∃ x,z12.alloc (.cells #[.int .i64 0] 3) = x:=⟨_,rfl⟩
    rw [hy] at k14 oP oQ k24 hN ⊢
    obtain ⟨b14,hbq⟩ : ∃ p,z12.heap.size = p:=⟨_,rfl⟩
    rw [hbq] at k14 k14_oP k14_oQ ⊢
    clear hy hbq
    have hSn:=hN
    clear hS
    refine Onward.on hSn (fun hS => ?_)
    try dsimp only at hS
    clear hSn
    try simp only [Act.put,Sp1,Sp2,Sp3,Sp4,Sp5,Sp6]
    refine AnyG.one (i:=3) (by kernel_rfl) rfl rfl ?_
    refine wp_app3 (.tmp 13) (.tmp 14) 22 rfl w.heap.size 3 i3 _ 1 8 Try.underlying22 hi3 hz3 hs3 iy3 rfl (by decide) (.slice PA i pc) i (inr (rowOf zer i)).flatten (by simp [Act.eval]) oP (some ⟨b14,0,none⟩) 1 1 [.int .i64 0] (by simp [Act.eval]) rfl (fun j u hu => ⟨_,rfl,bx_news k14 j u hu⟩) (by simp [Value.oneCell']) (by unfold maxLen; omega) (by omega) hS.1.size ?_
    intro v15 z3 o15 g3 x3 r3
    obtain ⟨A15,c15,rfl⟩:=own_shape o15
    rw [← inr_snoc,← HEP.out] at o15
    have ne3:=ne_step HNE.out (fun q e => (oQ.lt q e).2) r3
    replace oQ:=oQ.kept g3 (ne_turn HNE.out)
    replace k24:=k24.grown g3 k24_oP
    have hSn:=(show _ ∧ _ ∧ _ ∧ _ from ⟨hS.1.grown g3 hS.1.size (fun q e => (oP.lt q e).1),hS.2.1.grown g3 (own_bx oP hS.2.1 (by decide)),hS.2.2.1.grown g3 (own_bx oP hS.2.2.1 (by decide)),hS.2.2.2.grown g3 (own_bx oP hS.2.2.2 (by decide))⟩)
    clear hS
    refine Onward.on hSn (fun hS => ?_)
    try dsimp only at hS
    clear hSn
    try simp only [Act.put,Sp1,Sp2,Sp3,Sp4,Sp5,Sp6]
    refine AnyG.takeC (i:=14) (v:=?_) rfl (by kernel_rfl) (fun _ _ _ h => h) rfl ?_ hS ?_
    rotate_left
    ·(intro w' hSw; (try dsimp only at hSw); go_simp; try with_reducible rfl)
    try simp only [Act.put,Sp1,Sp2,Sp3,Sp4,Sp5,Sp6]
    refine AnyG.one (i:=13) (by kernel_rfl) rfl rfl ?_
    refine wp_app3 (.tmp 17) (.tmp 24) 22 rfl w.heap.size 3 i3 _ 1 8 Try.underlying22 hi3 hz3 hs3 iy3 rfl (by decide) (.slice QA i qc) i (inr (rowOf o.mx i)).flatten (by simp [Act.eval]) oQ (some ⟨b24,0,none⟩) 1 1 [.int .i64 gx] (by simp [Act.eval]) rfl (fun j u hu => ⟨_,rfl,bx_news k24 j u hu⟩) (by simp [Value.oneCell']) (by unfold maxLen; omega) (by omega) hS.1.size ?_
    intro v25 z13 o25 g13 x13 r13
    obtain ⟨A25,c25,rfl⟩:=own_shape o25
    rw [← inr_snoc,← HEQ.out] at o25
    have ne13:=ne_turn (ne_step (ne_turn ne3) (fun q e => (o15.lt q e).2) r13)
    replace o15:=o15.kept g13 ne3
    have hSn:=(show _ ∧ _ ∧ _ ∧ _ from ⟨hS.1.grown g13 hS.1.size (fun q e => (oQ.lt q e).1),hS.2.1.grown g13 (own_bx oQ hS.2.1 (by decide)),hS.2.2.1.grown g13 (own_bx oQ hS.2.2.1 (by decide)),hS.2.2.2.grown g13 (own_bx oQ hS.2.2.2 (by decide))⟩)
    clear hS
    refine Onward.on hSn (fun hS => ?_)
    try dsimp only at hS
    clear hSn
    try simp only [Act.put,Sp1,Sp2,Sp3,Sp4,Sp5,Sp6]
    refine AnyG.one (i:=15) (by kernel_rfl) rfl rfl ?_
    obtain ⟨x0,x1,xf,xz⟩:=hS.2.2.2.two
    go_simp
    refine Onward.last rfl ?_
    try simp only [Act.put,Sp1,Sp2,Sp3,Sp4,Sp5,Sp6]
    refine AnyG.one (i:=16) (by kernel_rfl) rfl rfl ?_
    go_simp
    refine Onward.last rfl ?_
    try simp only [Act.put,Sp1,Sp2,Sp3,Sp4,Sp5,Sp6]
    refine AnyG.one (i:=17) (by kernel_rfl) rfl rfl ?_
    go_simp
    refine Onward.last rfl ?_
    try simp only [Act.put,Sp1,Sp2,Sp3,Sp4,Sp5,Sp6]
    refine AnyG.done (by kernel_rfl) ?_ _
    go_simp
    obtain ⟨B9,k19,k29,k39⟩:=hS
    have s1:=k39.set_ 0 (.slice A15 (i + 1) c15)
    have s2:=s1.set_ 1 (.slice A25 (i + 1) c25)
    have a1:=own_set o15 (own_bx o15 k39 (by decide)) (o:=0) (.slice A15 (i + 1) c15)
    have a2:=own_set a1 (own_bx a1 s1 (by decide)) (o:=1) (.slice A25 (i + 1) c25)
    have c1:=own_set o25 (own_bx o25 k39 (by decide)) (o:=0) (.slice A15 (i + 1) c15)
    have c2:=own_set c1 (own_bx c1 s1 (by decide)) (o:=1) (.slice A25 (i + 1) c25)
    have B10:=(B9.setCell (p:=⟨b0 + 1 + 1,0,none⟩) (by rw [HB0.out]; simp; omega) (.slice A15 (i + 1) c15)).setCell (p:=⟨b0 + 1 + 1,1,none⟩) (by rw [HB0.out]; simp; omega) (.slice A25 (i + 1) c25)
    have k1a:=(k19.far (p:=⟨b0 + 1 + 1,0,none⟩) (by simp; omega) (.slice A15 (i + 1) c15)).far (p:=⟨b0 + 1 + 1,1,none⟩) (by simp; omega) (.slice A25 (i + 1) c25)
    have k2a:=(k29.far (p:=⟨b0 + 1 + 1,0,none⟩) (by simp) (.slice A15 (i + 1) c15)).far (p:=⟨b0 + 1 + 1,1,none⟩) (by simp) (.slice A25 (i + 1) c25)
    have HNX:=Lib.hid ne13
    clear ne13
    go_wp2_with fail
    go_roundw
    case rel => exact ⟨i + 1,A15,c15,A25,c25,by go_num,by omega,a2,c2,HNX.out,B10,k1a,k2a,by simpa using s2⟩
    case measure => simp [intOf]; omega
  ·obtain rfl : i = bn:=by omega
   obtain ⟨x0,x1,xf,xz⟩:=k3.two
   obtain ⟨t0,t1,tf,tz⟩:=k2.two
   go_wp2_with fail
   have s1:=k2.set_ 0 (.slice PA i pc)
   have s2:=s1.set_ 1 (.slice QA i qc)
   have a1:=own_set oP (own_bx oP k2 (by decide)) (o:=0) (.slice PA i pc)
   have a2:=own_set a1 (own_bx a1 s1 (by decide)) (o:=1) (.slice QA i qc)
   have c1:=own_set oQ (own_bx oQ k2 (by decide)) (o:=0) (.slice PA i pc)
   have c2:=own_set c1 (own_bx c1 s1 (by decide)) (o:=1) (.slice QA i qc)
   have B10:=(B0.setCell (p:=⟨b0 + 1,0,none⟩) (by rw [HB0.out]; simp) (.slice PA i pc)).setCell (p:=⟨b0 + 1,1,none⟩) (by rw [HB0.out]; simp) (.slice QA i qc)
   refine bodyPost_ret (v:=.agg #[.slice PA i pc,.slice QA i qc]) (results_row1 (g:=b0 + 1) (t:=119) rfl rfl (by simpa using s2) Try.underlying119 rfl (by kernel_rfl)) rfl ⟨⟨_,_,_,_,rfl,own_inr a2 (rowOf_len _ _),own_inr c2 (rowOf_len _ _)⟩,B10⟩
end Go.Proofs.Ytmemcopfeabcgaa
