/- MeltProofs. -/
import Derived.Test.YtmemcopfeabcgaaPr
import Derived.Test.YtmemcopfeabcgaaEo
import Derived.Test.YtmemcopfeabcgaaHu
import Derived.Test.YtmemcopfeabcgaaOf
import Derived.Test.YtmemcopfeabcgaaWdM
import Derived.Test.YtmemcopfeabcgaaMb
import Derived.Test.YtmemcopfeabcgaaCx
import Derived.Test.YtmemcopfeabcgaaAlM
import Derived.Deep.DeepCutAuto
set_option linter.unusedSimpArgs false
set_option linter.unusedVariables false
namespace Go.Proofs.Ytmemcopfeabcgaa
open Go Go.RowKit
theorem round_all (x : Int) (n : Nat) (w : World) (hx0 : -9223372036854775808 ≤ x) (hx1 : x ≤ 9223372036854775807) (hn : 1 ≤ n) (hn2 : n ≤ 1000000) :
  Calls Try.prog 43 #[.int .i64 x,.int .i64 n] w fun e w' => (∃ r : Nat,e = .returned (.int .i64 r) ∧ r < n) ∧ Below w.heap.size w w':=by
 by_cases h : n = 1
 ·subst h
  exact (round_one x w).mono fun e w' ⟨he,hb⟩ => ⟨⟨0,he,by omega⟩,hb⟩
 ·exact round_any x n w hx0 hx1 (by omega) hn2
theorem AnyG.castL {P : Program} {md : Region.Mode} {ops : Array Oper} {Q : Exit → Act → World → Prop} {S : World → Prop} {G : Nat → Bool} {fuel : Nat} {L L' : Array Bool} {a : Act} {w : World} (h : L = L') (H : AnyG P md ops Q S G fuel L' a w) : AnyG P md ops Q S G fuel L a w:=h ▸ H
/-- What several orders have in common is shown once. -/
theorem by_tail4 {P Hy : World → Nat → Nat → Nat → Int → Prop} {G : Prop} (main : (∀ y p q s r,Hy y p q s r → P y p q s r) → G) (tail : ∀ y p q s r,Hy y p q s r → P y p q s r) : G:=main tail
theorem by_tail9 {P Hy : World → Nat → Nat → Option Addr → Nat → Option Addr → Nat → Option Addr → Nat → List (List Value) → Prop} {G : Prop} (main : (∀ y p q A a B b C c rs,Hy y p q A a B b C c rs → P y p q A a B b C c rs) → G) (tail : ∀ y p q A a B b C c rs,Hy y p q A a B b C c rs → P y p q A a B b C c rs) : G:=main tail
theorem bds_no (l : List Bd) : ∀ r ∈ l.map bdr,∀ u ∈ r,∀ x,u ≠ .int .u64 x:=by
 intro r hr u hu x
 obtain ⟨b,_,rfl⟩:=List.mem_map.1 hr
 simp [bdr] at hu
 rcases hu with rfl | rfl | rfl <;> simp
theorem own_bdl {w : World} {b n : Nat} {A : Option Addr} {C : Nat} {L : List Bd} (h : w.ownsRow b 69 3 (.slice A n C) n (bdrs L)) (hl : L.length = n) : Sl w w.heap.size 3 A (L.map bdr):=by
 subst hl
 exact own_bds h
theorem bds_put {w : World} {q B : Nat} {a0 a1 a2 a3 : Value} {IA : Option Addr} {n ic : Nat} {L : List Bd} (k : Bx w q 27 #[a0,a1,a2,a3]) (oi : w.ownsRow B 69 3 (.slice IA n ic) n (bdrs L)) (hl : L.length = n) (v0 v1 v2 v3 : Value) :
  Sl ((((w.setCell ⟨q,0,none⟩ v0).setCell ⟨q,1,none⟩ v1).setCell ⟨q,2,none⟩ v2).setCell ⟨q,3,none⟩ v3) ((((w.setCell ⟨q,0,none⟩ v0).setCell ⟨q,1,none⟩ v1).setCell ⟨q,2,none⟩ v2).setCell ⟨q,3,none⟩ v3).heap.size 3 IA (L.map bdr):=by
 have s1:=k.set_ 0 v0
 have s2:=s1.set_ 1 v1
 have s3:=s2.set_ 2 v2
 have o1:=own_set oi (own_bx oi k (by decide)) (o:=0) v0
 have o2:=own_set o1 (own_bx o1 s1 (by decide)) (o:=1) v1
 have o3:=own_set o2 (own_bx o2 s2 (by decide)) (o:=2) v2
 exact own_bdl (own_set o3 (own_bx o3 s3 (by decide)) (o:=3) v3) hl
theorem bdrs_set (r : Bd) : ∀ (L : List Bd) (i : Nat),(((bdrs L).set (i * 3) (.int .i64 r.rs)).set (i * 3 + 1) (.int .i64 r.at_)).set (i * 3 + 2) (.int .i64 r.ct) = bdrs (if i < L.length then L.set i r else L):=by
 intro L
 induction L with
 | nil => intro i; simp [bdrs]
 | cons x L ih =>
  intro i
  cases i with
  | zero => simp [bdrs,bdr]
  | succ i =>
   have h:=ih i
   have e : bdrs (x :: L) = bdr x ++ bdrs L:=by simp [bdrs]
   have e2 : (i + 1) * 3 = (bdr x).length + i * 3:=by simp [bdr]; omega
   rw [e,e2,List.set_append_right _ _ (by omega),Nat.add_sub_cancel_left,List.set_append_right _ _ (by omega),show (bdr x).length + i * 3 + 1 - (bdr x).length = i * 3 + 1 by omega,List.set_append_right _ _ (by omega),show (bdr x).length + i * 3 + 2 - (bdr x).length = i * 3 + 2 by omega,h]
   by_cases hi : i < L.length
   ·rw [if_pos hi,if_pos (by simpa using hi)]; simp [bdrs]
   ·rw [if_neg hi,if_neg (by simpa using hi)]; simp [bdrs]
theorem cstS_bd {o : Od} (ho : o.Ok) {w : World} {bn : Nat} {v : Value} (hb : o.bs.length = bn) : ∀ {s : Option (List Int)},FV w bn v s → 0 ≤ cstS o bn s ∧ cstS o bn s ≤ 240000000
 | none,_ => by simp [cstS]
 | some m,h => by
  obtain ⟨A,c,_,_,h6,_⟩:=h
  exact cst_bd ho h6 (by omega)
/-- What is shown in a text of its own. -/
structure Later (P : Prop) : Prop where
 out : P
set_option maxRecDepth 100000 in
set_option maxHeartbeats 16000000 in
def meltProofs_A (LA : Option Addr) (ln lc : Nat) (BA : Option Addr) (bn bc : Nat) (o : Od) (price : Int) (PA : Option Addr) (pl pc : Nat) (LP : List Bd) (r : Bd) (at_ : Int) (A : Option Addr) (m c : Nat) (L : List Int) (w : World) : (P : Prop) ×' (P2 : Prop) ×' (Later P → Later P2 → ∀ (hln : ln ≤ 9223372036854775807) (hbn : bn ≤ 9223372036854775807) (hl : o.lm.length = ln) (hb' : o.bs.length = bn) (hA0 : OrdAt w w.heap.size LA BA o) (hpl : LP.length = pl) (hpc : pl ≤ pc) (hP : Sl w w.heap.size 3 PA (LP.map bdr)) (ha0 : -9223372036854775808 ≤ at_) (ha1 : at_ ≤ 9223372036854775807) (hm : m ≤ 9000000000000000000) (hL : L.length = m) (hA : Sl w w.heap.size 1 A (ints L)),
  Calls Try.prog 12 #[.agg #[.slice LA ln lc,.int .i64 o.le,.int .i64 o.mo,.slice BA bn bc],.int .i64 price,.slice PA pl pc,.agg #[.int .i64 r.rs,.int .i64 r.at_,.int .i64 r.ct],.int .i64 at_,.slice A m c] w fun e w' => e = .returned (.bool true) ∧ Below w.heap.size w w'):=by
 refine PSigma.mk ?P (PSigma.mk ?P2 ?g)
 case g =>
  intro hTail hTail2 hln hbn hl hb' hA0 hpl hpc hP ha0 ha1 hm hL hA
  have HLN:=Lib.hid hl
  have HBN:=Lib.hid hb'
  have HL:=Lib.hid hL
  have HPL:=Lib.hid hpl
  have k1:=(Bx.new w 27 #[.slice LA ln lc,.int .i64 o.le,.int .i64 o.mo,.slice BA bn bc]).alloc (.cells #[.int .i64 r.rs,.int .i64 r.at_,.int .i64 r.ct] 69)
  have k9:=Bx.at (w.alloc (.cells #[.slice LA ln lc,.int .i64 o.le,.int .i64 o.mo,.slice BA bn bc] 27)) 69 #[.int .i64 r.rs,.int .i64 r.at_,.int .i64 r.ct] (n:=w.heap.size + 1) (by simp)
  have B0:=((Below.refl w.heap.size w).alloc (Nat.le_refl _) (.cells #[.slice LA ln lc,.int .i64 o.le,.int .i64 o.mo,.slice BA bn bc] 27)).alloc (by simp) (.cells #[.int .i64 r.rs,.int .i64 r.at_,.int .i64 r.ct] 69)
  obtain ⟨V,hV⟩ : ∃ V,(w.alloc (.cells #[.slice LA ln lc,.int .i64 o.le,.int .i64 o.mo,.slice BA bn bc] 27)).alloc (.cells #[.int .i64 r.rs,.int .i64 r.at_,.int .i64 r.ct] 69) = V:=⟨_,rfl⟩
  have hO:=hA0.call B0
  have hP1:=hP.call B0
  have hA1 : Sl V V.heap.size 1 A (ints L):=by rw [← hV]; exact hA.call B0
  rw [hV] at k1 k9 B0 hO hP1
  have HV:=Lib.hid hV
  clear hV hl hb' hL hA0 hA hP hpl
  obtain ⟨b0,hb0⟩ : ∃ b,w.heap.size = b:=⟨_,rfl⟩
  rw [hb0] at k1 k9
  have HB0:=Lib.hid hb0
  clear hb0
  obtain ⟨l0,l1,l2,l3,lf',lz⟩:=k1.four
  go_enter Try.func12,Try.ntmps12
  go_upto_region 1 with fail
  rw [HV.out,HB0.out]
  have hhu:=huge_any LA ln lc BA bn bc o V hln hbn HLN.out HBN.out hO
  go_cut [51] (fun v51 wr => ∃ b : Bool,v51 = .bool b ∧ Hid (b = false → ln ≤ 20 ∧ bn ≤ 20 ∧ (∀ x ∈ o.bs,x.gr.length ≤ 20) ∧ pl ≤ 6060) ∧ Below V.heap.size V wr)
  case first =>
   go_wp2_with (first
    | (go_at_call 33; refine hhu.mono ?_; rintro e w1 ⟨⟨hb,rfl,hsml⟩,hq1⟩; have k2:=k1.call hq1; clear l0 l1 l2 l3 lf' lz; obtain ⟨l0,l1,l2,l3,lf',lz⟩:=k2.four; cases hb)
    | fail)
   rotate_left
   ·go_wp2_with fail
    go_meet
    exact ⟨true,rfl,Lib.hid (fun h => by cases h),hq1⟩
   obtain ⟨hln20,hbn20,hgr⟩:=hsml (by simp)
   have HGR:=Lib.hid hgr
   have hO2:=hO.call hq1
   clear hsml hhu hgr hln hbn l0 l1 l2 l3 lf' lz
   refine (wide_any LA ln lc BA bn bc o _ hln20 hbn20 HLN.out HBN.out hO2 (fun b hb => by have:=HGR.out b hb; omega)).mono ?_
   rintro e w2 ⟨⟨wd,rfl⟩,hq2⟩
   have hq:=hq1.trans (hq2.mono hq1.size)
   clear k2 hO2 hq1 hq2
   cases wd
   rotate_left
   ·go_wp2_with fail
    go_meet
    exact ⟨true,rfl,Lib.hid (fun h => by cases h),hq⟩
   by_cases h60 : 60 < pl
   ·have d60 : decide ((60 : Int) < (pl : Int)) = true:=by simp; omega
    by_cases h6k : pl ≤ 6000
    ·have d6k : decide ((pl : Int) ≤ 6000) = true:=by simp; omega
     clear h60 h6k
     go_wp2_with fail
     go_meet
     exact ⟨true,rfl,Lib.hid (fun h => by cases h),hq⟩
    ·have d6k : decide ((pl : Int) ≤ 6000) = false:=by simp; omega
     by_cases h66 : 6060 < pl
     ·have d66 : decide ((6060 : Int) < (pl : Int)) = true:=by simp; omega
      clear h60 h6k h66
      go_wp2_with fail
      go_meet
      exact ⟨true,rfl,Lib.hid (fun h => by cases h),hq⟩
     ·have d66 : decide ((6060 : Int) < (pl : Int)) = false:=by simp; omega
      have HH : Hid (false = false → ln ≤ 20 ∧ bn ≤ 20 ∧ (∀ x ∈ o.bs,x.gr.length ≤ 20) ∧ pl ≤ 6060):=Lib.hid (fun _ => ⟨hln20,hbn20,HGR.out,by omega⟩)
      clear h60 h6k h66
      go_wp2_with fail
      go_meet
      exact ⟨false,rfl,Lib.hid (fun _ => HH.out trivial),hq⟩
   ·have d60 : decide ((60 : Int) < (pl : Int)) = false:=by simp; omega
    have d66 : decide ((6060 : Int) < (pl : Int)) = false:=by simp; omega
    have HH : Hid (false = false → ln ≤ 20 ∧ bn ≤ 20 ∧ (∀ x ∈ o.bs,x.gr.length ≤ 20) ∧ pl ≤ 6060):=Lib.hid (fun _ => ⟨hln20,hbn20,HGR.out,by omega⟩)
    clear h60
    go_wp2_with fail
    go_meet
    exact ⟨false,rfl,Lib.hid (fun _ => HH.out trivial),hq⟩
  case rest =>
   obtain ⟨b,rfl,hsm,hq⟩:=hcut
   clear l0 l1 l2 l3 lf' lz hhu hln hbn
   cases b
   rotate_left
   ·go_wp2_with (first | (go_at_call 19; refine (alive_any _).mono ?_; rintro e V9 ⟨rfl,hq9⟩) | fail)
    go_ret
    exact ⟨rfl,B0.trans ((hq.trans (hq9.mono hq.size)).mono B0.size)⟩
   obtain ⟨hln20,hbn20,hgr,hpl60⟩:=hsm.out rfl
   have HGR:=Lib.hid hgr
   have k2:=k1.call hq
   have k92:=k9.call hq
   have hO2:=hO.call hq
   have hP2:=hP1.call hq
   have hA2:=hA1.call hq
   have B2:=B0.trans (hq.mono B0.size)
   have hb0l:=k92.lt
   clear hsm hgr k1 k9 hO hP1 hA1 B0 hq
   go_upto_region 4 with (first
    | (go_at_call 13; refine (feedOf_any A m c L _ hm HL.out hA2).mono ?_; rintro e w3 ⟨⟨g,rfl,hg0,hfd⟩,hb3⟩)
    | fail)
   have k3:=k2.call hb3
   have k93:=k92.call hb3
   have hO3:=hO2.call hb3
   have hP3:=hP2.call hb3
   have B3:=B2.trans (hb3.mono B2.size)
   have hgb : b0 ≠ g:=by omega
   have hgb9 : b0 + 1 ≠ g:=by omega
   have hwg : w.heap.size ≤ g:=Nat.le_trans B2.size hg0
   clear k2 k92 hO2 hP2 hA2 B2 hb3
   go_upto_region 5 with (first | (go_at_call 14; refine (orderOf_any g 3 2 3 _ hfd (by omega) (by omega) (by omega) (by omega) (by omega) (by omega)).mono ?_; rintro e w4 ⟨om,MA,NA,mc,nc,rfl,hsm,hOm0,hfd4,hgr4⟩) | fail)
   have HOM:=Lib.hid (hsm.ok (by omega) (by omega) (by omega))
   obtain ⟨ml,hml⟩ : ∃ k,om.lm.length = k:=⟨_,rfl⟩
   obtain ⟨mn,hmn⟩ : ∃ k,om.bs.length = k:=⟨_,rfl⟩
   have hml3 : ml ≤ 3:=by rw [← hml]; exact HOM.out.lm
   have hmn4 : mn ≤ 4:=by rw [← hmn]; exact HOM.out.b2
   rw [hml,hmn]
   have T4 : FT g w3 w4:=⟨hgr4,hfd4⟩
   have hO4:=FT.ord T4 hfd hO3
   have k4:=T4.bx k3 hgb
   have k94:=T4.bx k93 hgb9
   have hP4:=FT.sl T4 hfd hP3 (bds_no _)
   have B4:=T4.be B3 hwg
   have HML:=Lib.hid hml
   have HMN:=Lib.hid hmn
   clear hsm hml hmn k3 k93 hO3 hP3 B3 hfd hgr4
   have km:=Bx.new w4 27 #[.slice MA ml mc,.int .i64 om.le,.int .i64 om.mo,.slice NA mn nc]
   have k5:=k4.alloc (.cells #[.slice MA ml mc,.int .i64 om.le,.int .i64 om.mo,.slice NA mn nc] 27)
   have k95:=k94.alloc (.cells #[.slice MA ml mc,.int .i64 om.le,.int .i64 om.mo,.slice NA mn nc] 27)
   have Bc:=(Below.refl w4.heap.size w4).alloc (Nat.le_refl _) (.cells #[.slice MA ml mc,.int .i64 om.le,.int .i64 om.mo,.slice NA mn nc] 27)
   have hO5:=hO4.call Bc
   have hOm5:=hOm0.call Bc
   have hP5:=hP4.call Bc
   have B5:=B4.trans (Bc.mono B4.size)
   have hF5:=hfd4.alloc (.cells #[.slice MA ml mc,.int .i64 om.le,.int .i64 om.mo,.slice NA mn nc] 27)
   have hgl:=hfd4.lt
   obtain ⟨U,hU⟩ : ∃ U,w4.alloc (.cells #[.slice MA ml mc,.int .i64 om.le,.int .i64 om.mo,.slice NA mn nc] 27) = U:=⟨_,rfl⟩
   rw [hU] at km k5 k95 hO5 hOm5 hP5 B5 hF5 ⊢
   obtain ⟨bm,hbm⟩ : ∃ b,w4.heap.size = b:=⟨_,rfl⟩
   rw [hbm] at km hgl ⊢
   have hgm : bm ≠ g:=by omega
   have HOG : Hid (∀ b ∈ om.bs,b.gr.length ≤ 20):=Lib.hid (fun b hb => by have:=(HOM.out.bs b hb).len; have:=HOM.out.lm; omega)
   have HOG1 : Hid (∀ b ∈ om.bs,b.gr.length ≤ 1000):=Lib.hid (fun b hb => by have:=HOG.out b hb; omega)
   clear hU hbm Bc hO4 hOm0 hP4 B4 k4 k94 hfd4 T4
   obtain ⟨m0,m1,m2,m3,mf,mz⟩:=km.four
   go_upto_region 6 with (first | (go_at_call 41; refine (refCheap_ok MA ml mc NA mn nc om _ (by omega) (by omega) HML.out HMN.out hOm5 HOG1.out HOM.out).mono ?_; rintro e w5 ⟨⟨s,vs,hs,rfl,hv⟩,hq5⟩) | fail)
   have hcc:=cstS_bd HOM.out HMN.out hv
   obtain ⟨cc,hccv⟩ : ∃ x,cstS om mn s = x:=⟨_,rfl⟩
   rw [hccv] at hcc ⊢
   obtain ⟨ec,hec⟩ : ∃ x : Int,(if s.isSome = true then (0 : Int) else 13) = x:=⟨_,rfl⟩
   rw [hec]
   have k6:=k5.call hq5
   have k96:=k95.call hq5
   have km6:=km.call hq5
   have hO6:=hO5.call hq5
   have hOm6:=hOm5.call hq5
   have hP6:=hP5.call hq5
   have B6:=B5.trans (hq5.mono B5.size)
   have hF6:=Fd.below hF5 hq5
   clear hs hv hccv hec m0 m1 m2 m3 mf mz k5 k95 km hO5 hOm5 hP5 B5 hF5 hq5
   have T0:=FT.self hF6
   have hcw1 : IntKind.i64.wrap (cc + 1) = cc + 1:=IntWalk.i64_in _ (by omega)
   have hcw2 : IntKind.i64.wrap (cc - 1) = cc - 1:=IntWalk.i64_in _ (by omega)
   go_upto_region 7 with (first
    | (go_at_call 25; refine (below_any g 200 _ T0.2 (by omega) (by omega)).mono ?_; rintro e y1 ⟨⟨ra,rfl,ra1,ra2⟩,hf1,hg1⟩; have T1:=T0.call hg1 hf1; clear hg1 hf1)
    | (go_at_call 24; refine (either_any g _ 4 _ (fun r => -1 ≤ r ∧ r ≤ 250000000) _ (T1.alloc _).2 (Bx.new _ _ _) (by have:=T1.2.lt; omega) (by omega) (by omega) (bx4 _ ⟨by omega,by omega⟩ ⟨by omega,by omega⟩ ⟨by omega,by omega⟩ ⟨by omega,by omega⟩)).mono ?_; rintro e y3 ⟨⟨q0,rfl,p1,p2⟩,hf3,hg3⟩; have T3:=(T1.alloc (.cells #[.int .i64 cc,.int .i64 (cc + 1),.int .i64 (cc - 1),.int .i64 ra] 3)).call hg3 hf3; clear hg3 hf3)
    | fail)
   obtain ⟨q,hqv⟩ : ∃ q : Int,(if 0 < q0 then q0 else 0) = q:=⟨_,rfl⟩
   have hq0 : 0 ≤ q ∧ q ≤ 250000000:=by rw [← hqv]; split <;> omega
   rw [hqv]
   have k7:=T3.bx k6 hgb
   have k97:=T3.bx k96 hgb9
   have km7:=T3.bx km6 hgm
   have hO7:=FT.ord T3 hF6 hO6
   have hOm7:=FT.ord T3 hF6 hOm6
   have hP7:=FT.sl T3 hF6 hP6 (bds_no _)
   have B7:=T3.be B6 hwg
   have hF7:=T3.2
   clear hqv p1 p2 ra1 ra2 k6 k96 km6 hO6 hOm6 hP6 B6 hF6 T0 T1 T3 hcw1 hcw2 hcc
   obtain ⟨m0,m1,m2,m3,mf,mz⟩:=km7.four
   go_upto_region 8 with (first | (go_at_call 42; refine (refProve_any MA ml mc NA mn nc om q _ (by omega) (by omega) HML.out HMN.out hOm7 HOG1.out).mono ?_; rintro e w7 ⟨⟨RA,rc,rfl,hR,hrc⟩,hq7⟩) | fail)
   have hrl:=prvA_len (o:=om) (p:=q)
   obtain ⟨RL,hRL⟩ : ∃ l,(prvA om q).1 = l:=⟨_,rfl⟩
   rw [hRL] at hR hrl hrc ⊢
   obtain ⟨rn,hrn⟩ : ∃ k,RL.length = k:=⟨_,rfl⟩
   rw [hrn] at hrl hrc ⊢
   have HRN:=Lib.hid hrn
   have k8:=k7.call hq7
   have k98w:=k97.call hq7
   have km8:=km7.call hq7
   have hO8:=hO7.call hq7
   have hOm8:=hOm7.call hq7
   have hP8:=hP7.call hq7
   have B8:=B7.trans (hq7.mono B7.size)
   have hF8:=Fd.below hF7 hq7
   clear hRL hrn m0 m1 m2 m3 mf mz k7 k97 km7 hO7 hOm7 hP7 B7 hF7 hq7
   obtain ⟨i69,hi69,hz69,hs69,iy69⟩:=info_parts info69
   have oE:=World.ownsRow_made (w:=w7) (base:=w7.heap.size) (e:=69) (size:=3) #[] 0 (Nat.le_refl _) (by unfold maxLen; omega) (by simp)
   have BE:=(Below.refl w7.heap.size w7).alloc (Nat.le_refl _) (.cells #[] 69)
   have hRE:=hR.call BE
   go_upto_region 9 with (first
    | (at_builtin; refine wpList_app3 rfl (.tmp 80) (.tmp 81) 51 rfl w7.heap.size 69 i69 _ 3 24 Try.underlying51 hi69 hz69 hs69 iy69 rfl (by decide) (.slice (some ⟨w7.heap.size,0,none⟩) 0 0) 0 [] rfl oE RA rn rc (bdrs RL) rfl (by rw [bdrs_len,HRN.out]) (sl_news hRE (by omega) (bdr_len RL)) (bdrs_cell RL) (by unfold maxLen; omega) (by omega) BE.size ?_; intro v1 w8 o8 g8 r8; obtain ⟨OA,oc,rfl⟩:=own_shape o8)
    | fail)
   rw [Nat.zero_add,List.nil_append] at o8
   have bq:=BE.grown g8 BE.size (fun q e => (oE.lt q e).1)
   have k98:=k98w.call bq
   have hoc:=own_le o8
   clear oE BE hRE g8 r8
   go_upto_if 85 with (fail)
   go_cut [20] (fun v20 wr => ∃ OL : List Bd,v20 = .slice OA rn oc ∧ Hid (OL.length = rn) ∧ Sl wr wr.heap.size 3 OA (OL.map bdr) ∧ Below w7.heap.size w7 wr)
   case first =>
    by_cases hr0 : rn = 0
    ·subst hr0
     go_wp2_with fail
     go_meet
     exact ⟨RL,rfl,HRN,own_bdl o8 HRN.out,bq⟩
    ·have d0 : decide ((0 : Int) < (rn : Int)) = true:=by simp; omega
     have d0n : decide (0 < rn) = true:=by simp; omega
     obtain ⟨qo,rfl⟩:=own_some o8 (by omega)
     have hqo:=(o8.lt qo rfl).1
     go_wp2_with fail
     refine AnyG.startC (by as_aux_lemma => kernel_rfl) ?_
     refine AnyG.takeP (i:=0) (v:=?_) rfl (by as_aux_lemma => kernel_rfl) (fun _ _ _ h => h) rfl ?_ ?_
     rotate_left
     ·(intro w'; go_simp; try with_reducible rfl)
     try simp only [Act.put,Sp1,Sp2,Sp3,Sp4,Sp5,Sp6]
     refine AnyG.takeP (i:=1) (v:=?_) rfl (by as_aux_lemma => kernel_rfl) (fun _ _ _ h => h) rfl ?_ ?_
     rotate_left
     ·(intro w'; go_simp; try with_reducible rfl)
     try simp only [Act.put,Sp1,Sp2,Sp3,Sp4,Sp5,Sp6]
     refine AnyG.takeP (i:=2) (v:=?_) rfl (by as_aux_lemma => kernel_rfl) (fun _ _ _ h => h) rfl ?_ ?_
     rotate_left
     ·(intro w'; go_simp; try with_reducible rfl)
     try simp only [Act.put,Sp1,Sp2,Sp3,Sp4,Sp5,Sp6]
     refine AnyG.takeP (i:=3) (v:=?_) rfl (by as_aux_lemma => kernel_rfl) (fun _ _ _ h => h) rfl ?_ ?_
     rotate_left
     ·(intro w'; go_simp; try with_reducible rfl)
     try simp only [Act.put,Sp1,Sp2,Sp3,Sp4,Sp5,Sp6]
     refine AnyG.enter (fun w' : World => Below w8.heap.size w8 w') (fun i => i != 7) ?_
     have hS : (fun w' : World => Below w8.heap.size w8 w') (World.drew _):=(Below.refl _ _).drew
     refine AnyG.takeC (i:=5) (v:=?_) rfl (by as_aux_lemma => kernel_rfl) (fun _ _ _ h => h) rfl ?_ hS ?_
     rotate_left
     ·(intro w' hSw; (try dsimp only at hSw); obtain ⟨r0,r1,r2,rf,rz⟩:=(k98.call hSw).three; go_simp; try with_reducible rfl)
     try simp only [Act.put,Sp1,Sp2,Sp3,Sp4,Sp5,Sp6]
     refine AnyG.one (i:=4) (by as_aux_lemma => kernel_rfl) rfl rfl ?_
     go_simp
     refine (round_all at_ rn _ ha0 ha1 (by omega) (by omega)).mono ?_
     rintro e4 y4 ⟨⟨ri,rfl,hri⟩,hb4⟩
     refine Onward.on (hS.trans (hb4.mono hS.size)) (fun hS2 => ?_)
     clear hS
     have hS:=hS2
     clear hS2
     try simp only [Act.put,Sp1,Sp2,Sp3,Sp4,Sp5,Sp6]
     refine AnyG.takeC (i:=6) (v:=?_) rfl (by as_aux_lemma => kernel_rfl) (fun _ _ _ h => h) rfl ?_ hS ?_
     rotate_left
     ·(intro w' hSw; (try dsimp only at hSw); go_simp; try with_reducible rfl)
     try simp only [Act.put,Sp1,Sp2,Sp3,Sp4,Sp5,Sp6]
     refine AnyG.one (i:=7) (by as_aux_lemma => kernel_rfl) rfl rfl ?_
     have o9:=own_bel o8 hS
     have f9:=own_free o9
     obtain ⟨ad,e0,-,s0,s1,s2⟩:=bd_at (own_bdl o9 HRN.out) (k:=ri) (by rw [HRN.out]; exact hri)
     obtain rfl:=Option.some.inj e0
     rw [addq] at s0 s1 s2
     dsimp only at s1 s2
     have hS7:=hS
     go_simp
     clear s0 s1 s2
     refine Onward.last rfl ?_
     try simp only [Act.put,Sp1,Sp2,Sp3,Sp4,Sp5,Sp6]
     refine AnyG.done (by as_aux_lemma => kernel_rfl) ?_ _
     have o91:=own_store o9 (ri * 3) (.int .i64 r.rs) (by omega)
     have o92:=own_store o91 (ri * 3 + 1) (.int .i64 r.at_) (by omega)
     have o93:=own_store o92 (ri * 3 + 2) (.int .i64 r.ct) (by omega)
     rw [bdrs_set,if_pos (by rw [HRN.out]; exact hri)] at o93
     have bT:=(((bq.trans (hS7.mono bq.size)).setCell (p:=⟨qo,ri * 3,none⟩) hqo (.int .i64 r.rs)).setCell (p:=⟨qo,ri * 3 + 1,none⟩) hqo (.int .i64 r.at_)).setCell (p:=⟨qo,ri * 3 + 2,none⟩) hqo (.int .i64 r.ct)
     go_simp
     go_wp2_with fail
     go_meet
     exact ⟨RL.set ri r,rfl,Lib.hid (by rw [List.length_set]; exact HRN.out),own_bdl o93 (by rw [List.length_set]; exact HRN.out),bT⟩
   case rest =>
    obtain ⟨OL,rfl,HOL,hOL,bq9⟩:=hcut
    obtain ⟨W9,hW9⟩ : ∃ W,W = wc:=⟨_,rfl⟩
    subst hW9
    have k10:=k8.call bq9
    have km10:=km8.call bq9
    have hO10:=hO8.call bq9
    have hOm10:=hOm8.call bq9
    have hP10:=hP8.call bq9
    have hR10:=hR.call bq9
    have B10:=B8.trans (bq9.mono B8.size)
    have hF10:=Fd.below hF8 bq9
    clear o8 bq k98 k98w k8 km8 hO8 hOm8 hP8 hR B8 hF8 bq9
    go_wp2_with fail
    go_cut [21,22,23] (fun v21 v22 v23 wr => ∃ (b98 b107 b113 : Nat) (rb : Int),v21 = .slice (some ⟨b98,0,none⟩) 5 5 ∧ v22 = .slice (some ⟨b107,0,none⟩) 5 5 ∧ v23 = .slice (some ⟨b113,0,none⟩) 5 5 ∧ Bx wr b98 27 #[.slice LA ln lc,.int .i64 o.le,.int .i64 o.mo,.slice BA bn bc,.slice MA ml mc,.int .i64 om.le,.int .i64 om.mo,.slice NA mn nc,.slice MA ml mc,.int .i64 om.le,.int .i64 om.mo,.slice NA mn nc,.slice MA ml mc,.int .i64 om.le,.int .i64 om.mo,.slice NA mn nc,.slice MA ml mc,.int .i64 om.le,.int .i64 om.mo,.slice NA mn nc] ∧ Bx wr b107 3 #[.int .i64 price,.int .i64 q,.int .i64 q,.int .i64 price,.int .i64 (q + rb)] ∧ Bx wr b113 51 #[.slice PA pl pc,.slice RA rn rc,.slice OA rn oc,.slice PA pl pc,.slice RA rn rc] ∧ FT g W9 wr)
    case first =>
     rename_i qq j1 j2 j3 j4 j5 j6 j7 j8 j9 j10 j11 j12 j13 j14 j15 j16 j17 j18 j19 j20 j21 j22 j23 j24 j25 j26 j27 j28 j29 j30 j31 j32 j33 j34 j35 j36 j37 j38 j39 j40 j41 j42 j43 j44 j45 j46 j47 j48 j49 j50 j51 j52 j53 j54 j55 j56 j57 j58 j59 j60 j61 j62 j63 j64 j65 j66 j67 j68 j69 j70 j71 j72 j73 j74 j75 j76 j77 j78 j79 j80 j81 j82 j83 j84 j85 j86 j87 j88 j89 j90 j91 j92 j93 j94 j95 j96 j97 j98 j99 j100 j101 j102 j103 j104 j105 j106 j107 j108 j109 j110 j111 j112 j113 j114 j115 j116 j117 j118 j119 j120 j121 j122 j123 j124 j125 j126 j127 j128 j129 j130 j131 j132 j133 j134 j135 j136 j137 j138 j139 j140 j141 j142 j143 j144 j145 j146 j147 j148 j149 j150 j151 j152 j153 j154 j155 j156 j157 j158 j159 j160 j161 j162 j163 j164 j165 j166 j167 j168 j169 j170 j171 KK aa JJ KP m1 m0
     clear aa
     revert hpc ha0 ha1 hm HLN HBN HL HPL V HV b0 HB0 qq wc hln20 hbn20 hpl60 HGR hb0l w3 g hg0 hgb hgb9 hwg w4 om MA NA mc nc HOM ml mn hml3 hmn4 HML HMN U bm hgl hgm HOG HOG1 w5 s vs cc ec y1 ra y3 q0 q hq0 w7 RA rc RL rn hrc hrl HRN i69 hi69 hz69 hs69 iy69 w8 OA oc hoc u31 u32 u33 u34 u35 u36 u37 u38 u39 u40 u41 u42 u43 u44 u45 u46 u47 u48 u49 u50 u51 u52 u53 u54 u55 u56 u57 u58 u59 u60 u61 u62 u63 u64 u65 u66 u67 u68 u69 u70 u71 u72 u73 u74 u75 u76 u77 u78 u79 u80 u81 u82 u83 u84 u85 u86 u87 u88 u89 u90 u91 u92 u93 u94 u95 u96 u97 u98 u99 u100 u101 u102 u103 u104 u105 u106 u107 u108 u109 u110 u111 u112 u113 u114 u115 u116 u117 u118 u119 u120 u121 u122 u123 u124 u125 u126 u127 u128 u129 u130 u131 u132 u133 u134 u135 u136 u137 u138 u139 u140 u141 u142 u143 u144 u145 u146 u147 u148 u149 u150 u151 u152 u153 u154 u155 u156 u157 u158 u159 u160 u161 u162 u163 u164 u165 u166 u167 u168 u169 u170 u171 u172 u173 u174 u175 u176 u177 u178 u179 u180 u181 u182 u183 u184 u185 u186 u187 u188 u189 u190 u191 u192 u193 u194 u195 u196 u197 u198 u199 u200 u201 u202 OL HOL W9 hOL k10 km10 hO10 hOm10 hP10 hR10 B10 hF10 JJ KP m1 m0
     exact hTail.out
    case rest =>
     obtain ⟨b98,b107,b113,rb,rfl,rfl,rfl,kos,kps,kss,hT⟩:=hcut
     obtain ⟨W,hW⟩ : ∃ W,W = wc:=⟨_,rfl⟩
     subst hW
     have hO11:=FT.ord hT hF10 hO10
     have hOm11:=FT.ord hT hF10 hOm10
     have hP11:=FT.sl hT hF10 hP10 (bds_no _)
     have hR11:=FT.sl hT hF10 hR10 (bds_no _)
     have hL11:=FT.sl hT hF10 hOL (bds_no _)
     have B11:=hT.be B10 hwg
     have KOS:=Lib.hid (Sl.of_flat (s:=4) (xs:=([[.slice LA ln lc,.int .i64 o.le,.int .i64 o.mo,.slice BA bn bc],[.slice MA ml mc,.int .i64 om.le,.int .i64 om.mo,.slice NA mn nc],[.slice MA ml mc,.int .i64 om.le,.int .i64 om.mo,.slice NA mn nc],[.slice MA ml mc,.int .i64 om.le,.int .i64 om.mo,.slice NA mn nc],[.slice MA ml mc,.int .i64 om.le,.int .i64 om.mo,.slice NA mn nc]] : List (List Value))) kos (by simp) rfl)
     have KPS:=Lib.hid (Sl.of_flat (s:=1) (xs:=([[.int .i64 price],[.int .i64 q],[.int .i64 q],[.int .i64 price],[.int .i64 (q + rb)]] : List (List Value))) kps (by simp) rfl)
     have KSS:=Lib.hid (Sl.of_flat (s:=1) (xs:=([[.slice PA pl pc],[.slice RA rn rc],[.slice OA rn oc],[.slice PA pl pc],[.slice RA rn rc]] : List (List Value))) kss (by simp) rfl)
     clear kos kps kss hO10 hOm10 hP10 hR10 hOL B10 k10 km10 hF10 hT
     have HR : Hid (∀ i,i < 5 → ∃ (o9 : Od) (LA9 : Option Addr) (ln9 lc9 : Nat) (BA9 : Option Addr) (bn9 bc9 : Nat) (p9 : Int) (SA9 : Option Addr) (n9 sc9 : Nat) (BL9 : List Bd),(([[.slice LA ln lc,.int .i64 o.le,.int .i64 o.mo,.slice BA bn bc],[.slice MA ml mc,.int .i64 om.le,.int .i64 om.mo,.slice NA mn nc],[.slice MA ml mc,.int .i64 om.le,.int .i64 om.mo,.slice NA mn nc],[.slice MA ml mc,.int .i64 om.le,.int .i64 om.mo,.slice NA mn nc],[.slice MA ml mc,.int .i64 om.le,.int .i64 om.mo,.slice NA mn nc]] : List (List Value)))[i]? = some [.slice LA9 ln9 lc9,.int .i64 o9.le,.int .i64 o9.mo,.slice BA9 bn9 bc9] ∧ (([[.int .i64 price],[.int .i64 q],[.int .i64 q],[.int .i64 price],[.int .i64 (q + rb)]] : List (List Value)))[i]? = some [.int .i64 p9] ∧ (([[.slice PA pl pc],[.slice RA rn rc],[.slice OA rn oc],[.slice PA pl pc],[.slice RA rn rc]] : List (List Value)))[i]? = some [.slice SA9 n9 sc9] ∧ (o9.lm.length = ln9 ∧ o9.bs.length = bn9 ∧ ln9 ≤ 20 ∧ bn9 ≤ 20 ∧ n9 ≤ 6060 ∧ n9 ≤ sc9) ∧ (∀ b ∈ o9.bs,b.gr.length ≤ 20) ∧ OrdAt W W.heap.size LA9 BA9 o9 ∧ BL9.length = n9 ∧ Sl W W.heap.size 3 SA9 (BL9.map bdr)):=Lib.hid (fun i hi => by
      rcases (show i = 0 ∨ i = 1 ∨ i = 2 ∨ i = 3 ∨ i = 4 by omega) with rfl | rfl | rfl | rfl | rfl
      ·exact ⟨o,LA,ln,lc,BA,bn,bc,price,PA,pl,pc,LP,rfl,rfl,rfl,⟨HLN.out,HBN.out,hln20,hbn20,hpl60,hpc⟩,HGR.out,hO11,HPL.out,hP11⟩
      ·exact ⟨om,MA,ml,mc,NA,mn,nc,q,RA,rn,rc,RL,rfl,rfl,rfl,⟨HML.out,HMN.out,by omega,by omega,by omega,hrc⟩,HOG.out,hOm11,HRN.out,hR11⟩
      ·exact ⟨om,MA,ml,mc,NA,mn,nc,q,OA,rn,oc,OL,rfl,rfl,rfl,⟨HML.out,HMN.out,by omega,by omega,by omega,hoc⟩,HOG.out,hOm11,HOL.out,hL11⟩
      ·exact ⟨om,MA,ml,mc,NA,mn,nc,price,PA,pl,pc,LP,rfl,rfl,rfl,⟨HML.out,HMN.out,by omega,by omega,hpl60,hpc⟩,HOG.out,hOm11,HPL.out,hP11⟩
      ·exact ⟨om,MA,ml,mc,NA,mn,nc,q + rb,RA,rn,rc,RL,rfl,rfl,rfl,⟨HML.out,HMN.out,by omega,by omega,by omega,hrc⟩,HOG.out,hOm11,HRN.out,hR11⟩)
     clear hO11 hOm11 hP11 hR11 hL11
     go_wp2_with fail
     go_loopw [24,25,26,27,28,29,30] (fun v _ _ _ _ _ _ wr => ∃ (i : Nat),v = .int .i64 i ∧ i ≤ 5 ∧ Below W.heap.size W wr) (fun v _ _ _ _ _ _ _ => 5 - (intOf v).toNat)
     case atStart => exact ⟨0,rfl,by omega,Below.refl _ _⟩
     case round =>
      obtain ⟨i,rfl,hi,hWr⟩:=hrel
      by_cases hi3 : i < 5
      ·obtain ⟨o9,LA9,ln9,lc9,BA9,bn9,bc9,p9,SA9,n9,sc9,BL9,hr39,hr45,hr51,⟨hl9,hb9,hln9,hbn9,hn9,hsc9⟩,hg9,hO9,hBL9,hSB9⟩:=HR.out i hi3
       have HQO : Hid (∀ x,Below W.heap.size W x → x.cell? ⟨b98,i * 4,none⟩ = some (.slice LA9 ln9 lc9) ∧ x.cell? ⟨b98,i * 4 + 1,none⟩ = some (.int .i64 o9.le) ∧ x.cell? ⟨b98,i * 4 + 2,none⟩ = some (.int .i64 o9.mo) ∧ x.cell? ⟨b98,i * 4 + 3,none⟩ = some (.slice BA9 bn9 bc9)):=Lib.hid (fun x hx => by
        obtain ⟨ad,e1,-,e3⟩:=(KOS.out.call hx) i _ hr39
        obtain rfl:=Option.some.inj e1
        rw [addq] at e3
        exact ⟨e3.head rfl,e3.next 0 rfl,e3.next 1 rfl,e3.next 2 rfl⟩)
       have HQP : Hid (∀ x,Below W.heap.size W x → x.cell? ⟨b107,i,none⟩ = some (.int .i64 p9)):=Lib.hid (fun x hx => by
        obtain ⟨ad,e1,-,e3⟩:=(KPS.out.call hx) i _ hr45
        obtain rfl:=Option.some.inj e1
        rw [addq] at e3
        have:=e3.head rfl
        rwa [Nat.mul_one] at this)
       have HQS : Hid (∀ x,Below W.heap.size W x → x.cell? ⟨b113,i,none⟩ = some (.slice SA9 n9 sc9)):=Lib.hid (fun x hx => by
        obtain ⟨ad,e1,-,e3⟩:=(KSS.out.call hx) i _ hr51
        obtain rfl:=Option.some.inj e1
        rw [addq] at e3
        have:=e3.head rfl
        rwa [Nat.mul_one] at this)
       have HLN9:=Lib.hid hl9
       have HBN9:=Lib.hid hb9
       have HG209:=Lib.hid hg9
       have HG19 : Hid (∀ b ∈ o9.bs,b.gr.length ≤ 1000):=Lib.hid (fun b hb => by have:=hg9 b hb; omega)
       have HBL9:=Lib.hid hBL9
       have hi3' : (i : Int) < 5:=by omega
       have hiw : IntKind.i64.wrap ((i : Int) + 1) = (i : Int) + 1:=IntWalk.i64_in _ (by omega)
       clear hr39 hr45 hr51 hl9 hb9 hg9 hBL9
       rename_i qq j1 j2 j3 j4 j5 j6 j7 j8 j9 j10 j11 j12 j13 j14 j15 j16 j17 j18 j19 j20 j21 j22 j23 j24 j25 j26 j27 j28 j29 j30 j31 j32 j33 j34 j35 j36 j37 j38 j39 j40 j41 j42 j43 j44 j45 j46 j47 j48 j49 j50 j51 j52 j53 j54 j55 j56 j57 j58 j59 j60 j61 j62 j63 j64 j65 j66 j67 j68 j69 j70 j71 j72 j73 j74 j75 j76 j77 j78 j79 j80 j81 j82 j83 j84 j85 j86 j87 j88 j89 j90 j91 j92 j93 j94 j95 j96 j97 j98 j99 j100 j101 j102 j103 j104 j105 j106 j107 j108 j109 j110 j111 j112 j113 j114 j115 j116 j117 j118 j119 j120 j121 j122 j123 j124 j125 j126 j127 j128 j129 j130 j131 j132 j133 j134 j135 j136 j137 j138 j139 j140 j141 j142 j143 j144 j145 j146 j147 j148 j149 j150 j151 j152 j153 j154 j155 j156 j157 j158 j159 j160 j161 j162 j163 j164 j165 j166 j167 j168 j169 j170 j171 j172 j173 j174 j175 j176 j177 j178 j179 j180 j181 j182 j183 j184 j185 j186 j187 j188 j189 j190 j191 j192 j193 j194 j195 j196 j197 j198 j199 j200 j201 j202 j203 j204 j205 j206 j207 j208 j209 j210 j211 j212 j213 j214 j215 j216 j217 j218 j219 j220 j221 j222 j223 j224 j225 j226 j227 j228 j229 j230 j231 j232 j233 j234 j235 j236 j237 j238 j239 j240 j241 j242 j243 j244 j245 j246 j247 j248 j249 j250 j251 j252 j253 j254 j255 j256 j257 j258 j259 j260 j261 j262 j263 j264 j265 j266 j267 j268 j269 j270 j271 j272 j273 j274 j275 j276 j277 j278 j279 j280 j281 j282 j283 j284 j285 j286 j287 j288 j289 j290 j291 j292 j293 j294 j295 j296 j297 j298 j299 j300 j301 j302 j303 j304 j305 j306 j307 j308 j309 j310 j311 j312 j313 j314 j315 j316 j317 j318 j319 j320 j321 j322 j323 j324 j325 j326 j327 j328 j329 j330 j331 j332 j333 j334 j335 j336 j337 j338 j339 j340 j341 j342 j343 j344 j345 j346 j347 j348 j349 j350 j351 j352 j353 j354 j355 j356 j357 j358 j359 j360 j361 j362 j363 j364 j365 j366 j367 j368 j369 j370 j371 j372 j373 j374 j375 j376 j377 j378 j379 j380 j381 j382 j383 j384 j385 j386 j387 j388 j389 j390 j391 j392 j393 j394 j395 j396 j397 j398 j399 j400 j401 j402 j403 j404 j405 j406 j407 j408 j409 j410 j411 j412 j413 j414 j415 j416 j417 j418 j419 j420 j421 j422 j423 j424 j425 j426 j427 j428 j429 j430 j431 KK aa
       clear aa
       revert hpc ha0 ha1 hm HLN HBN HL HPL V HV b0 HB0 qq wc hln20 hbn20 hpl60 HGR hb0l w3 g hg0 hgb hgb9 hwg w4 om MA NA mc nc HOM ml mn hml3 hmn4 HML HMN U bm hgl hgm HOG HOG1 w5 s vs cc ec y1 ra y3 q0 q hq0 w7 RA rc RL rn hrc hrl HRN i69 hi69 hz69 hs69 iy69 w8 OA oc hoc OL HOL W9 u31 u32 u33 u34 u35 u36 u37 u38 u39 u40 u41 u42 u43 u44 u45 u46 u47 u48 u49 u50 u51 u52 u53 u54 u55 u56 u57 u58 u59 u60 u61 u62 u63 u64 u65 u66 u67 u68 u69 u70 u71 u72 u73 u74 u75 u76 u77 u78 u79 u80 u81 u82 u83 u84 u85 u86 u87 u88 u89 u90 u91 u92 u93 u94 u95 u96 u97 u98 u99 u100 u101 u102 u103 u104 u105 u106 u107 u108 u109 u110 u111 u112 u113 u202 b98 b107 b113 rb W B11 KOS KPS KSS HR KK wr u12 u25 u26 u27 u28 u29 u30 u114 u115 u116 u117 u118 u119 u120 u121 u122 u123 u124 u125 u126 u127 u128 u129 u130 u131 u132 u133 u134 u135 u136 u137 u138 u139 u140 u141 u142 u143 u144 u145 u146 u147 u148 u149 u150 u151 u152 u153 u154 u155 u156 u157 u158 u159 u160 u161 u162 u163 u164 u165 u166 u167 u168 u169 u170 u171 u172 u173 u174 u175 u176 u177 u178 u179 u180 u181 u182 u183 u184 u185 u186 u187 u188 u189 u190 u191 u192 u193 u194 u195 u196 u197 u198 u199 u200 u201 i hi hWr hi3 o9 LA9 ln9 lc9 BA9 bn9 bc9 p9 SA9 n9 sc9 BL9 hln9 hbn9 hn9 hsc9 hO9 hSB9 HQO HQP HQS HLN9 HBN9 HG209 HG19 HBL9 hi3' hiw
       exact hTail2.out
      ·obtain rfl : i = 5:=by omega
       go_wp2_with (first | (go_at_call 19; refine (alive_any _).mono ?_; rintro e V9 ⟨rfl,hq9⟩) | fail)
       go_ret
       have h9:=hWr.trans (hq9.mono hWr.size)
       exact ⟨rfl,B11.trans (h9.mono B11.size)⟩
end Go.Proofs.Ytmemcopfeabcgaa
