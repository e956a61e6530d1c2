/- swarfkit.CopyOrder of any order with short lists; swarflaw06.huge. -/
import Derived.Test.YtmemcopfeabcgaaMsM
set_option linter.unusedSimpArgs false
set_option linter.unusedVariables false
namespace Go.Proofs.Ytmemcopfeabcgaa
open Go Go.RowKit
set_option maxRecDepth 100000 in
set_option maxHeartbeats 8000000 in
theorem copyOrder_gen (LA : Option Addr) (ln lc : Nat) (BA : Option Addr) (bn bc : Nat) (o : Od) (w : World) (hl : o.lm.length = ln) (hb' : o.bs.length = bn) (hA : OrdAt w w.heap.size LA BA o) (hln3 : ln ≤ 20) (hbn4 : bn ≤ 20) (hgr : ∀ b ∈ o.bs,b.gr.length ≤ 20) :
  Calls Try.prog 31 #[.agg #[.slice LA ln lc,.int .i64 o.le,.int .i64 o.mo,.slice BA bn bc]] w fun e w' => ∃ (XA : Option Addr) (xc : Nat) (YA : Option Addr) (yc : Nat) (rs : List (List Value)),e = .returned (.agg #[.slice XA ln xc,.int .i64 o.le,.int .i64 o.mo,.slice YA bn yc]) ∧ w'.ownsRow w.heap.size 3 1 (.slice XA ln xc) ln (inr o.lm).flatten ∧ w'.ownsRow w.heap.size 42 4 (.slice YA bn yc) bn rs.flatten ∧ BinsOwn w' w.heap.size rs o.bs ∧ Below w.heap.size w w':=by
 obtain ⟨i42,hi42,hz42,hs42,iy42⟩:=info_parts info42
 have k1:=((Bx.new w 27 #[.slice LA ln lc,.int .i64 o.le,.int .i64 o.mo,.slice BA bn bc]).alloc (.cells #[.slice none 0 0,.int .i64 0,.int .i64 0,.slice none 0 0] 27)).alloc (.cells #[.slice LA ln lc,.int .i64 o.le,.int .i64 o.mo,.slice BA bn bc] 27)
 have k2:=(Bx.at (w.alloc (.cells #[.slice LA ln lc,.int .i64 o.le,.int .i64 o.mo,.slice BA bn bc] 27)) 27 #[.slice none 0 0,.int .i64 0,.int .i64 0,.slice none 0 0] (n:=w.heap.size + 1) (by simp)).alloc (.cells #[.slice LA ln lc,.int .i64 o.le,.int .i64 o.mo,.slice BA bn bc] 27)
 have k3:=Bx.at ((w.alloc (.cells #[.slice LA ln lc,.int .i64 o.le,.int .i64 o.mo,.slice BA bn bc] 27)).alloc (.cells #[.slice none 0 0,.int .i64 0,.int .i64 0,.slice none 0 0] 27)) 27 #[.slice LA ln lc,.int .i64 o.le,.int .i64 o.mo,.slice BA bn bc] (n:=w.heap.size + 1 + 1) (by simp)
 have B0:=(((Below.refl w.heap.size w).alloc (Nat.le_refl _) (.cells #[.slice LA ln lc,.int .i64 o.le,.int .i64 o.mo,.slice BA bn bc] 27)).alloc (by simp) (.cells #[.slice none 0 0,.int .i64 0,.int .i64 0,.slice none 0 0] 27)).alloc (by simp; omega) (.cells #[.slice LA ln lc,.int .i64 o.le,.int .i64 o.mo,.slice BA bn bc] 27)
 have HLN:=Lib.hid hl
 have HBN:=Lib.hid hb'
 have HGR:=Lib.hid hgr
 clear hl hb' hgr
 go_enter Try.func31,Try.ntmps31
 go_upto_region 2 with fail
 obtain ⟨V,hV⟩ : ∃ V,((w.alloc (.cells #[.slice LA ln lc,.int .i64 o.le,.int .i64 o.mo,.slice BA bn bc] 27)).alloc (.cells #[.slice none 0 0,.int .i64 0,.int .i64 0,.slice none 0 0] 27)).alloc (.cells #[.slice LA ln lc,.int .i64 o.le,.int .i64 o.mo,.slice BA bn bc] 27) = V:=⟨_,rfl⟩
 rw [hV] at k1 k2 k3 B0 ⊢
 clear hV
 have hAV:=(hA.below B0).more B0.size
 obtain ⟨l0,l1,l2,l3,lf',lz⟩:=k1.four
 obtain ⟨q0,q1,q2,q3,qf,qz⟩:=k3.four
 go_upto_region 3 with (first
  | (go_at_call 34; refine (ints34_any LA ln lc o.lm _ (by omega) HLN.out hAV.lm).mono ?_; rintro e w1 ⟨⟨XA,xc,rfl,ox⟩,hb1⟩; replace k1:=k1.call hb1; replace k2:=k2.call hb1; replace k3:=k3.call hb1; have B1:=B0.trans (hb1.mono B0.size); clear l0 l1 l2 l3 lf' lz q0 q1 q2 q3 qf qz; obtain ⟨l0,l1,l2,l3,lf',lz⟩:=k1.four; obtain ⟨q0,q1,q2,q3,qf,qz⟩:=k3.four)
  | fail)
 clear l0 l1 l2 l3 lf' lz q0 q1 q2 q3 qf qz
 have z1:=k3.lt
 have hVs:=B0.size
 have ox1:=ownsRow_up (b':=w.heap.size) ox (fun k e => Nat.le_trans hVs (ox.lt k e).1)
 have ox2:=own_set (own_set ox1 (own_bx ox1 k3 (by decide)) (o:=0) (.slice XA ln xc)) (own_bx ox1 k3 (by decide)) (o:=3) (.slice none 0 0)
 have k3':=(k3.set_ 0 (.slice XA ln xc)).set_ 3 (.slice none 0 0)
 have k1':=(k1.far (p:=⟨w.heap.size + 1 + 1,0,none⟩) (by simp; try omega) (.slice XA ln xc)).far (p:=⟨w.heap.size + 1 + 1,3,none⟩) (by simp; try omega) (.slice none 0 0)
 have k2':=(k2.far (p:=⟨w.heap.size + 1 + 1,0,none⟩) (by simp; try omega) (.slice XA ln xc)).far (p:=⟨w.heap.size + 1 + 1,3,none⟩) (by simp; try omega) (.slice none 0 0)
 have B2:=(B1.setCell (p:=⟨w.heap.size + 1 + 1,0,none⟩) (by simp; try omega) (.slice XA ln xc)).setCell (p:=⟨w.heap.size + 1 + 1,3,none⟩) (by simp; try omega) (.slice none 0 0)
 obtain ⟨X,hX⟩ : ∃ X,(w1.setCell ⟨w.heap.size + 1 + 1,0,none⟩ (.slice XA ln xc)).setCell ⟨w.heap.size + 1 + 1,3,none⟩ (.slice none 0 0) = X:=⟨_,rfl⟩
 rw [hX] at ox2 k1' k2' k3' B2 ⊢
 have C0 : CI w o.lm [] o.le o.mo (.slice XA ln xc) (.slice none 0 0) [] (w.heap.size + 1 + 1) X:=⟨by simpa using k3',by rw [HLN.out]; exact ox2,World.ownsRow_nil _ _ _ _,.nil _ _,B2,by omega⟩
 clear hX ox ox1 ox2 k1 k2 k3 k3' B2 B1 B0 hb1 z1 hVs hAV
 go_wp2_with fail
 go_loopw [4] (fun v wr => ∃ (i : Nat) (bv : Value) (rs : List (List Value)),v = .int .i64 i ∧ i ≤ bn ∧ CI w o.lm (o.bs.take i) o.le o.mo (.slice XA ln xc) bv rs (w.heap.size + 1 + 1) wr ∧ Bx wr w.heap.size 27 #[.slice LA ln lc,.int .i64 o.le,.int .i64 o.mo,.slice BA bn bc] ∧ Bx wr (w.heap.size + 1) 27 #[.slice none 0 0,.int .i64 0,.int .i64 0,.slice none 0 0]) (fun v _ => bn - (intOf v).toNat)
 case atStart => exact ⟨0,.slice none 0 0,[],rfl,by omega,by simpa using C0,k1',k2'⟩
 case round =>
  clear C0 k1' k2'
  obtain ⟨i,bv,rs,rfl,hi,C,k1,k2⟩:=hrel
  obtain ⟨YA,yc,rfl⟩:=own_shape C.ob
  obtain ⟨l0,l1,l2,l3,lf',lz⟩:=k1.four
  by_cases hin : i < bn
  ·have hil : i < o.bs.length:=by rw [HBN.out]; exact hin
   have hti : (o.bs.take i).length = i:=by simp; omega
   have hbo:=HGR.out _ (List.getElem_mem hil)
   obtain ⟨ad,G,gc,rfl,-,p0,p1,p2,p3,hgs⟩:=(hA.call C.hb).bs.at_ hil
   obtain ⟨b,hb⟩ : ∃ b,o.bs[i] = b:=⟨_,rfl⟩
   rw [hb] at p0 p1 p2 p3 hgs hbo
   obtain ⟨gl,hgl⟩ : ∃ k,b.gr.length = k:=⟨_,rfl⟩
   rw [hgl] at p0 hbo
   have HBI:=Lib.hid hb
   have HGL:=Lib.hid hgl
   have HTI:=Lib.hid hti
   have hjw : IntKind.i64.wrap ((i : Int) + 1) = (i : Int) + 1:=IntWalk.i64_in _ (by omega)
   clear hb hgl
   rw [hti] at C
   go_upto_region 7 with fail
   clear l0 l1 l2 l3 lf' lz p0 p1 p2 p3
   obtain ⟨wt,hwt⟩ : ∃ x,b.w = x:=⟨_,rfl⟩
   obtain ⟨ct,hct⟩ : ∃ x,b.c = x:=⟨_,rfl⟩
   obtain ⟨gt,hgt⟩ : ∃ x,b.g = x:=⟨_,rfl⟩
   rw [hwt,hct,hgt]
   have HW:=Lib.hid (And.intro hwt (And.intro hct hgt))
   clear hwt hct hgt
   have hk:=Bx.new wr 42 #[.slice G gl gc,.int .i64 wt,.int .i64 ct,.int .i64 gt]
   have C1:=C.bel ((Below.refl _ _).alloc (Nat.le_refl _) (.cells #[.slice G gl gc,.int .i64 wt,.int .i64 ct,.int .i64 gt] 42))
   have hg1:=hgs.call ((Below.refl _ _).alloc (Nat.le_refl _) (.cells #[.slice G gl gc,.int .i64 wt,.int .i64 ct,.int .i64 gt] 42))
   have k11:=k1.alloc (.cells #[.slice G gl gc,.int .i64 wt,.int .i64 ct,.int .i64 gt] 42)
   have k21:=k2.alloc (.cells #[.slice G gl gc,.int .i64 wt,.int .i64 ct,.int .i64 gt] 42)
   have hwp : w.heap.size ≤ wr.heap.size:=C.hb.size
   obtain ⟨Y,hY⟩ : ∃ Y,wr.alloc (.cells #[.slice G gl gc,.int .i64 wt,.int .i64 ct,.int .i64 gt] 42) = Y:=⟨_,rfl⟩
   rw [hY] at hk C1 hg1 k11 k21 ⊢
   have hq3:=C.k.lt
   obtain ⟨p,hp⟩ : ∃ p,wr.heap.size = p:=⟨_,rfl⟩
   have hpo : some p ≠ (Value.slice YA i yc).ownBlock:=fun h => by have:=(C.ob.lt _ h.symm).2; omega
   rw [hp] at hk hwp hq3 ⊢
   clear hY hp C k1 k2 hgs
   obtain ⟨b0,b1,b2,b3,bf,bz⟩:=hk.four
   go_upto_region 8 with (first
    | (go_at_call 69; refine (ranges_any G gl gc b.gr _ (by omega) HGL.out hg1).mono ?_; rintro e y2 ⟨⟨RA,rc,rfl,og⟩,hq⟩; replace hk:=hk.call hq; clear b0 b1 b2 b3 bf bz; obtain ⟨b0,b1,b2,b3,bf,bz⟩:=hk.four)
    | fail)
   clear b0 b1 b2 b3 bf bz
   have C2:=C1.bel hq
   have k12:=(k11.call hq).far (p:=⟨p,0,none⟩) (by simp; omega) (.slice RA gl rc)
   have k22:=(k21.call hq).far (p:=⟨p,0,none⟩) (by simp; omega) (.slice RA gl rc)
   have hy1:=C1.hb.size
   have og1:=ownsRow_up (b':=w.heap.size) og (fun k e => Nat.le_trans hy1 (og.lt k e).1)
   have og2:=own_set og1 (own_bx og1 hk (by decide)) (o:=0) (.slice RA gl rc)
   have C3 : CI w o.lm (o.bs.take i) o.le o.mo (.slice XA ln xc) (.slice YA i yc) rs (w.heap.size + 1 + 1) (y2.setCell ⟨p,0,none⟩ (.slice RA gl rc)):=by
    exact ⟨C2.k.far (by simp; omega) _,own_set C2.ol (own_bx C2.ol hk (by decide)) _,own_set C2.ob hpo _,C2.bo.set_ hk (by decide) 0 _,C2.hb.setCell hwp _,C2.hq⟩
   have hk2 : Bx (y2.setCell ⟨p,0,none⟩ (.slice RA gl rc)) p 42 #[.slice RA gl rc,.int .i64 wt,.int .i64 ct,.int .i64 gt]:=by simpa using hk.set_ 0 (.slice RA gl rc)
   obtain ⟨Z,hZ⟩ : ∃ Z,y2.setCell ⟨p,0,none⟩ (.slice RA gl rc) = Z:=⟨_,rfl⟩
   rw [hZ] at C3 hk2 og2 k12 k22 ⊢
   clear hZ C1 C2 hk og og1 hq k11 k21 hg1 hy1 hq3
   have kb:=Bx.new Z 42 #[.slice RA gl rc,.int .i64 wt,.int .i64 ct,.int .i64 gt]
   have C4:=C3.bel ((Below.refl _ _).alloc (Nat.le_refl _) (.cells #[.slice RA gl rc,.int .i64 wt,.int .i64 ct,.int .i64 gt] 42))
   have og4:=og2.alloc (.cells #[.slice RA gl rc,.int .i64 wt,.int .i64 ct,.int .i64 gt] 42)
   have k14:=k12.alloc (.cells #[.slice RA gl rc,.int .i64 wt,.int .i64 ct,.int .i64 gt] 42)
   have k24:=k22.alloc (.cells #[.slice RA gl rc,.int .i64 wt,.int .i64 ct,.int .i64 gt] 42)
   have OB:=C4.ob
   rw [HTI.out] at OB
   have hCs:=C4.hb.size
   obtain ⟨b0,b1,b2,b3,bf,bz⟩:=hk2.four
   obtain ⟨q0,q1,q2,q3,qf,qz⟩:=C3.k.four
   go_wp2_with (first
    | (at_builtin; refine wpList_app2 rfl (.tmp 29) (.tmp 31) 25 rfl w.heap.size 42 i42 _ 4 48 Try.underlying25 hi42 hz42 hs42 iy42 rfl (by decide) (.slice YA i yc) i rs.flatten rfl OB ⟨Z.heap.size,0,none⟩ 1 1 [.slice RA gl rc,.int .i64 wt,.int .i64 ct,.int .i64 gt] rfl rfl (bx_news kb) (by simp [Value.oneCell']) (by unfold maxLen; omega) (by omega) hCs ?_; intro v' w' o1 o2 o3; obtain ⟨NA,NC,rfl⟩:=own_shape o1; have k3':=C4.k.grown o2 (own_bx OB C4.k (by decide)); clear q0 q1 q2 q3 qf qz; obtain ⟨q0,q1,q2,q3,qf,qz⟩:=k3'.four)
    | fail)
   go_roundw
   case rel =>
    have gr : GrRow (Z.alloc (.cells #[.slice RA gl rc,.int .i64 wt,.int .i64 ct,.int .i64 gt] 42)) w.heap.size [.slice RA gl rc,.int .i64 wt,.int .i64 ct,.int .i64 gt] b:=⟨RA,rc,by rw [HGL.out,HW.out.1,HW.out.2.1,HW.out.2.2],by rw [HGL.out]; exact og4⟩
    have C5:=C4.bin o2 (by rw [HTI.out]; exact o1) gr
    have e : o.bs.take (i + 1) = o.bs.take i ++ [b]:=by rw [List.take_add_one,List.getElem?_eq_getElem hil,HBI.out]; rfl
    refine ⟨i + 1,.slice NA (i + 1) NC,rs ++ [[.slice RA gl rc,.int .i64 wt,.int .i64 ct,.int .i64 gt]],by go_num,by omega,by rw [e]; exact C5,?_,?_⟩
    ·exact (k14.grown o2 (own_bx OB k14 (by decide))).far (by simp; try omega) _
    ·exact (k24.grown o2 (own_bx OB k24 (by decide))).far (by simp; try omega) _
   case measure => simp [intOf]; omega
  ·obtain rfl : i = bn:=by omega
   have ht : o.bs.take i = o.bs:=List.take_of_length_le (by rw [HBN.out]; exact Nat.le_refl _)
   rw [ht,HBN.out] at C
   obtain ⟨n0,n1,n2,n3,nf,nz⟩:=k2.four
   obtain ⟨q0,q1,q2,q3,qf,qz⟩:=C.k.four
   have HC:=Lib.hid C
   clear C ht
   go_wp2_with fail
   have C:=HC.out
   have ol:=C.ol
   have ob:=C.ob
   rw [HLN.out] at ol
   rw [HBN.out] at ob
   have s1:=k2.set_ 0 (.slice XA ln xc)
   have s2:=s1.set_ 1 (.int .i64 o.le)
   have s3:=s2.set_ 2 (.int .i64 o.mo)
   have s4:=s3.set_ 3 (.slice YA i yc)
   have ol1:=own_set ol (own_bx ol k2 (by decide)) (o:=0) (.slice XA ln xc)
   have ol2:=own_set ol1 (own_bx ol1 s1 (by decide)) (o:=1) (.int .i64 o.le)
   have ol3:=own_set ol2 (own_bx ol2 s2 (by decide)) (o:=2) (.int .i64 o.mo)
   have ol4:=own_set ol3 (own_bx ol3 s3 (by decide)) (o:=3) (.slice YA i yc)
   have ob1:=own_set ob (own_bx ob k2 (by decide)) (o:=0) (.slice XA ln xc)
   have ob2:=own_set ob1 (own_bx ob1 s1 (by decide)) (o:=1) (.int .i64 o.le)
   have ob3:=own_set ob2 (own_bx ob2 s2 (by decide)) (o:=2) (.int .i64 o.mo)
   have ob4:=own_set ob3 (own_bx ob3 s3 (by decide)) (o:=3) (.slice YA i yc)
   have bo4:=(((C.bo.set_ k2 (by decide) 0 (.slice XA ln xc)).set_ s1 (by decide) 1 (.int .i64 o.le)).set_ s2 (by decide) 2 (.int .i64 o.mo)).set_ s3 (by decide) 3 (.slice YA i yc)
   have hb4:=(((C.hb.setCell (p:=⟨w.heap.size + 1,0,none⟩) (by simp) (.slice XA ln xc)).setCell (p:=⟨w.heap.size + 1,1,none⟩) (by simp) (.int .i64 o.le)).setCell (p:=⟨w.heap.size + 1,2,none⟩) (by simp) (.int .i64 o.mo)).setCell (p:=⟨w.heap.size + 1,3,none⟩) (by simp) (.slice YA i yc)
   refine bodyPost_ret (v:=.agg #[.slice XA ln xc,.int .i64 o.le,.int .i64 o.mo,.slice YA i yc]) (results_row1 (g:=w.heap.size + 1) (t:=27) rfl rfl (by simpa using s4) Try.underlying27 rfl (by kernel_rfl)) rfl ⟨XA,xc,YA,yc,rs,rfl,ol4,ob4,bo4,hb4⟩

set_option maxRecDepth 100000 in
set_option maxHeartbeats 4000000 in
theorem huge_any (LA : Option Addr) (ln lc : Nat) (BA : Option Addr) (bn bc : Nat) (o : Od) (w : World) (hln : ln ≤ 9223372036854775807) (hbn : bn ≤ 9223372036854775807) (hl : o.lm.length = ln) (hb' : o.bs.length = bn) (hA : OrdAt w w.heap.size LA BA o) :
  Calls Try.prog 33 #[.agg #[.slice LA ln lc,.int .i64 o.le,.int .i64 o.mo,.slice BA bn bc]] w fun e w' => (∃ hb : Bool,e = .returned (.bool hb) ∧ (hb = false → ln ≤ 20 ∧ bn ≤ 20 ∧ ∀ b ∈ o.bs,b.gr.length ≤ 20)) ∧ Below w.heap.size w w':=by
 have k1:=Bx.new w 27 #[.slice LA ln lc,.int .i64 o.le,.int .i64 o.mo,.slice BA bn bc]
 have B0:=(Below.refl w.heap.size w).alloc (Nat.le_refl _) (.cells #[.slice LA ln lc,.int .i64 o.le,.int .i64 o.mo,.slice BA bn bc] 27)
 obtain ⟨V,hV⟩ : ∃ V,w.alloc (.cells #[.slice LA ln lc,.int .i64 o.le,.int .i64 o.mo,.slice BA bn bc] 27) = V:=⟨_,rfl⟩
 have hA1:=hA.call B0
 rw [hV] at k1 B0 hA1
 have HB:=Lib.hid hb'
 have HL:=Lib.hid hl
 have HV:=Lib.hid hV
 clear hV hl hb' hA
 obtain ⟨l0,l1,l2,l3,lf',lz⟩:=k1.four
 go_enter Try.func33,Try.ntmps33
 go_upto_region 1 with fail
 rw [HV.out]
 go_wp2_with fail
 go_loopw [3] (fun v wr => ∃ (i : Nat),v = .int .i64 i ∧ i ≤ bn ∧ i ≤ 20 ∧ Hid (∀ j b,j < i → o.bs[j]? = some b → b.gr.length ≤ 20) ∧ wr = V) (fun v _ => bn - (intOf v).toNat)
 case atStart => exact ⟨0,rfl,by omega,by omega,Lib.hid (fun j b h => by omega),rfl⟩
 case round =>
  obtain ⟨i,rfl,hi,hi20,hh,rfl⟩:=hrel
  by_cases hin : i < bn
  ·by_cases h20 : i < 20
   ·have hil : i < o.bs.length:=by rw [HB.out]; exact hin
    have hiw : IntKind.i64.wrap ((i : Int) + 1) = (i : Int) + 1:=IntWalk.i64_in _ (by omega)
    have h20i : (i : Int) < 20:=by omega
    obtain ⟨ba,G,gc,rfl,hba,p0,-,-,-,-⟩:=hA1.bs.at_ hil
    obtain ⟨b,hbe⟩ : ∃ b,o.bs[i] = b:=⟨_,rfl⟩
    rw [hbe] at p0
    obtain ⟨gl,hgl⟩ : ∃ k,b.gr.length = k:=⟨_,rfl⟩
    rw [hgl] at p0
    have HBE:=Lib.hid (And.intro hbe hgl)
    clear hbe hgl
    by_cases hg : 20 < gl
    ·have d : decide ((20 : Int) < (gl : Int)) = true:=by simp; omega
     clear hg
     go_wp2_with fail
     go_ret
     exact ⟨⟨true,rfl,fun h => by cases h⟩,B0⟩
    ·have d : decide ((20 : Int) < (gl : Int)) = false:=by simp; omega
     have hnx : ∀ j b,j < i + 1 → o.bs[j]? = some b → b.gr.length ≤ 20:=fun j b' hj hb => by
      by_cases e : j = i
      ·subst e
       rw [List.getElem?_eq_getElem hil,HBE.out.1,Option.some.injEq] at hb
       subst hb
       rw [HBE.out.2]; omega
      ·exact hh.out j b' (by omega) hb
     have HN:=Lib.hid hnx
     clear hg hnx
     go_wp2_with fail
     go_roundw
     case rel => exact ⟨i + 1,by go_num,by omega,by omega,HN,by trivial⟩
     case measure => simp [intOf]; omega
   ·have e20 : i = 20:=by omega
    subst e20
    by_cases hl20 : 20 < ln
    ·have d : decide ((20 : Int) < (ln : Int)) = true:=by simp; omega
     clear hl20
     go_wp2_with fail
     go_ret
     exact ⟨⟨true,rfl,fun h => by cases h⟩,B0⟩
    ·have d : decide ((20 : Int) < (ln : Int)) = false:=by simp; omega
     by_cases hb20 : 20 < bn
     ·have d2 : decide ((20 : Int) < (bn : Int)) = true:=by simp; omega
      clear hb20
      go_wp2_with fail
      go_ret
      exact ⟨⟨true,rfl,fun h => by cases h⟩,B0⟩
     ·have d2 : decide ((20 : Int) < (bn : Int)) = false:=by simp; omega
      have hfin : ln ≤ 20 ∧ bn ≤ 20 ∧ ∀ b ∈ o.bs,b.gr.length ≤ 20:=⟨by omega,by omega,fun b hb => by
       obtain ⟨j,hj⟩:=List.getElem?_of_mem hb
       exact hh.out j b (by have h9:=(List.getElem?_eq_some_iff.1 hj).1; rw [HB.out] at h9; omega) hj⟩
      have HF:=Lib.hid hfin
      clear hl20 hb20 hfin
      go_wp2_with fail
      go_ret
      exact ⟨⟨false,rfl,fun _ => HF.out⟩,B0⟩
  ·obtain rfl : i = bn:=by omega
   by_cases hl20 : 20 < ln
   ·have d : decide ((20 : Int) < (ln : Int)) = true:=by simp; omega
    clear hl20
    go_wp2_with fail
    go_ret
    exact ⟨⟨true,rfl,fun h => by cases h⟩,B0⟩
   ·have d : decide ((20 : Int) < (ln : Int)) = false:=by simp; omega
    by_cases hb20 : 20 < i
    ·have d2 : decide ((20 : Int) < (i : Int)) = true:=by simp; omega
     clear hb20
     go_wp2_with fail
     go_ret
     exact ⟨⟨true,rfl,fun h => by cases h⟩,B0⟩
    ·have d2 : decide ((20 : Int) < (i : Int)) = false:=by simp; omega
     have hfin : ln ≤ 20 ∧ i ≤ 20 ∧ ∀ b ∈ o.bs,b.gr.length ≤ 20:=⟨by omega,by omega,fun b hb => by
      obtain ⟨j,hj⟩:=List.getElem?_of_mem hb
      exact hh.out j b (by have h9:=(List.getElem?_eq_some_iff.1 hj).1; rw [HB.out] at h9; omega) hj⟩
     have HF:=Lib.hid hfin
     clear hl20 hb20 hfin
     go_wp2_with fail
     go_ret
     exact ⟨⟨false,rfl,fun _ => HF.out⟩,B0⟩
end Go.Proofs.Ytmemcopfeabcgaa
