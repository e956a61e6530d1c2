/- BridgeNets: slips, net weights and what is paid are what the reference says. -/
import Derived.Test.YtgbogdckmfencaaNpM
import Derived.Test.YtgbogdckmfencaaPd
import Derived.Deep.CutBlock
set_option linter.unusedSimpArgs false
set_option linter.unusedVariables false
namespace Go.Proofs.Ytgbogdckmfencaa
open Go Go.RowKit
def RBx (q0 q1 : Int) (q : Nat) (w : World) : Prop:=∃ p0 p1 : Int,Bx w q 23 #[.int .i64 q0,.int .i64 q1,.int .i64 p0,.int .i64 p1,.int .i64 q0,.int .i64 q1,.int .i64 q0,.int .i64 q1]
set_option maxRecDepth 100000 in
set_option maxHeartbeats 80000000 in
theorem nets_run (x0 x1 x2 : Int) (XA : Option Addr) (xn xc : Nat) (xs : List Ev) (SFA : Option Addr) (sfn sfc : Nat) (SBA : Option Addr) (sbn sbc : Nat) (sfs sbs sd0 sd1 : Int) (SF SB : List Int) (q0 q1 : Int) (A : Option Addr) (n c : Nat) (L : List Int) (w : World) (hxn : xn ≤ 9223372036854775807) (hsfn : sfn ≤ 9223372036854775807) (hsbn : sbn ≤ 9223372036854775807) (hxl : xs.length = xn) (hsfl : SF.length = sfn) (hsbl : SB.length = sbn) (hX : EvsAt w w.heap.size XA xs) (hSF : Sl w w.heap.size 1 SFA (ints SF)) (hSB : Sl w w.heap.size 1 SBA (ints SB)) (hn : n ≤ 9000000000000000000) (hl : L.length = n) (hA : Sl w w.heap.size 1 A (ints L)) :
  Calls Try.prog 4 #[.agg #[.int .i64 x0,.int .i64 x1,.int .i64 x2,.slice XA xn xc],.agg #[.slice SFA sfn sfc,.slice SBA sbn sbc,.int .i64 sfs,.int .i64 sbs,.int .i64 sd0,.int .i64 sd1],.agg #[.int .i64 q0,.int .i64 q1],.slice A n c] w fun e w' => e = .returned (.bool true) ∧ Below w.heap.size w w':=by
 have HL:=Lib.hid hl
 have HXL:=Lib.hid hxl
 have HSFL:=Lib.hid hsfl
 have HSBL:=Lib.hid hsbl
 clear hl hxl hsfl hsbl
 have hB0:=(((Below.refl w.heap.size w).alloc (Nat.le_refl _) (.cells #[.int .i64 x0,.int .i64 x1,.int .i64 x2,.slice XA xn xc] 26)).alloc (by simp) (.cells #[.slice SFA sfn sfc,.slice SBA sbn sbc,.int .i64 sfs,.int .i64 sbs,.int .i64 sd0,.int .i64 sd1] 50)).alloc (by simp; omega) (.cells #[.int .i64 q0,.int .i64 q1] 23)
 have hP0 : PX w.heap.size x0 x1 x2 XA xn xc xs SFA sfn sfc SBA sbn sbc sfs sbs sd0 sd1 SF SB (((w.alloc (.cells #[.int .i64 x0,.int .i64 x1,.int .i64 x2,.slice XA xn xc] 26)).alloc (.cells #[.slice SFA sfn sfc,.slice SBA sbn sbc,.int .i64 sfs,.int .i64 sbs,.int .i64 sd0,.int .i64 sd1] 50)).alloc (.cells #[.int .i64 q0,.int .i64 q1] 23)):=by
  have h1 : Below w.heap.size w ((w.alloc (.cells #[.int .i64 x0,.int .i64 x1,.int .i64 x2,.slice XA xn xc] 26)).alloc (.cells #[.slice SFA sfn sfc,.slice SBA sbn sbc,.int .i64 sfs,.int .i64 sbs,.int .i64 sd0,.int .i64 sd1] 50)):=((Below.refl w.heap.size w).alloc (Nat.le_refl _) (.cells #[.int .i64 x0,.int .i64 x1,.int .i64 x2,.slice XA xn xc] 26)).alloc (by simp) (.cells #[.slice SFA sfn sfc,.slice SBA sbn sbc,.int .i64 sfs,.int .i64 sbs,.int .i64 sd0,.int .i64 sd1] 50)
  exact PX.al ⟨(Bx.new w 26 #[.int .i64 x0,.int .i64 x1,.int .i64 x2,.slice XA xn xc]).alloc (.cells #[.slice SFA sfn sfc,.slice SBA sbn sbc,.int .i64 sfs,.int .i64 sbs,.int .i64 sd0,.int .i64 sd1] 50),Bx.at (w.alloc (.cells #[.int .i64 x0,.int .i64 x1,.int .i64 x2,.slice XA xn xc] 26)) 50 #[.slice SFA sfn sfc,.slice SBA sbn sbc,.int .i64 sfs,.int .i64 sbs,.int .i64 sd0,.int .i64 sd1] (by simp),(Sl.below hX h1).more h1.size,(hSF.below h1).more h1.size,(hSB.below h1).more h1.size⟩ (.cells #[.int .i64 q0,.int .i64 q1] 23)
 have kD0:=Bx.at ((w.alloc (.cells #[.int .i64 x0,.int .i64 x1,.int .i64 x2,.slice XA xn xc] 26)).alloc (.cells #[.slice SFA sfn sfc,.slice SBA sbn sbc,.int .i64 sfs,.int .i64 sbs,.int .i64 sd0,.int .i64 sd1] 50)) 23 #[.int .i64 q0,.int .i64 q1] (n:=w.heap.size + 1 + 1) (by simp)
 have hA0 : Sl (((w.alloc (.cells #[.int .i64 x0,.int .i64 x1,.int .i64 x2,.slice XA xn xc] 26)).alloc (.cells #[.slice SFA sfn sfc,.slice SBA sbn sbc,.int .i64 sfs,.int .i64 sbs,.int .i64 sd0,.int .i64 sd1] 50)).alloc (.cells #[.int .i64 q0,.int .i64 q1] 23)) (((w.alloc (.cells #[.int .i64 x0,.int .i64 x1,.int .i64 x2,.slice XA xn xc] 26)).alloc (.cells #[.slice SFA sfn sfc,.slice SBA sbn sbc,.int .i64 sfs,.int .i64 sbs,.int .i64 sd0,.int .i64 sd1] 50)).alloc (.cells #[.int .i64 q0,.int .i64 q1] 23)).heap.size 1 A (ints L):=(hA.below hB0).more hB0.size
 have H0:=Lib.hid (And.intro hB0 (And.intro hP0 (And.intro kD0 hA0)))
 clear hB0 hP0 kD0 hA0 hX hSF hSB hA
 by_cases h20 : 20 < xn
 ·go_enter Try.func4,Try.ntmps4
  go_wp2_with (first | (go_at_call 14; refine (awake_any _).mono ?_; rintro e x7 ⟨rfl,hq7⟩) | fail)
  go_ret
  exact ⟨rfl,H0.out.1.trans (hq7.mono H0.out.1.size)⟩
 by_cases h10 : 10 < sfn
 ·go_enter Try.func4,Try.ntmps4
  go_wp2_with (first | (go_at_call 14; refine (awake_any _).mono ?_; rintro e x7 ⟨rfl,hq7⟩) | fail)
  go_ret
  exact ⟨rfl,H0.out.1.trans (hq7.mono H0.out.1.size)⟩
 by_cases h11 : 10 < sbn
 ·go_enter Try.func4,Try.ntmps4
  go_wp2_with (first | (go_at_call 14; refine (awake_any _).mono ?_; rintro e x7 ⟨rfl,hq7⟩) | fail)
  go_ret
  exact ⟨rfl,H0.out.1.trans (hq7.mono H0.out.1.size)⟩
 go_enter Try.func4,Try.ntmps4
 go_upto_region 5 with (first
  | (go_at_call 16; refine (feedOf_any A n c L _ hn HL.out H0.out.2.2.2).mono ?_; rintro e w1 ⟨⟨g,rfl,hg0,hfd⟩,hb1⟩; have hgl:=hfd.lt)
  | (go_at_call 15; refine (logOf_any g 9 60 false _ hfd (by omega) (by omega) (by omega) (by omega)).mono ?_; rintro e w2 ⟨st,z0,z1,ts,z,ev,zv,nv,rfl,⟨hs1,hs2,-,hz0,hz01,hz1⟩,hmd,hlen,hoe,hoz,hon,-,hfd2,hgr2⟩; obtain ⟨EA,EC,rfl⟩:=own_shape hoe; obtain ⟨ZA,ZC,rfl⟩:=own_shape hoz; obtain ⟨NA,NC,rfl⟩:=own_shape hon)
  | fail)
 obtain ⟨k,hk⟩ : ∃ k,ts.length = k:=⟨_,rfl⟩
 have hk9 : k ≤ 9:=by omega
 obtain ⟨es,hes⟩ : ∃ e,evsOf ts = e:=⟨_,rfl⟩
 have hel : es.length = k:=by rw [← hes,evsOf_len]; exact hk
 rw [hk] at hoe hoz hon ⊢
 rw [hes] at hoe
 have hBw:=H0.out.1
 have hB1:=hBw.trans (hb1.mono hBw.size)
 have hgw : w.heap.size ≤ g:=Nat.le_trans hBw.size hg0
 have hg3 : w.heap.size + 2 < g:=by have:=hg0; simp at this; omega
 have hB2 : Below w.heap.size w w2:=hB1.grown hgr2 hB1.size (fun k e => by cases e; exact hgw)
 have P:=(((H0.out.2.1.bel hb1).gr hfd hgr2 (by omega)).al (.cells #[.int .i64 st,.int .i64 z0,.int .i64 z1,.slice EA k EC] 26)).al (.cells #[.slice ZA k ZC,.slice NA k NC] 32)
 have kD:=(((H0.out.2.2.1.call hb1).grown hgr2 (by simp; omega)).alloc (.cells #[.int .i64 st,.int .i64 z0,.int .i64 z1,.slice EA k EC] 26)).alloc (.cells #[.slice ZA k ZC,.slice NA k NC] 32)
 have kL:=(Bx.new w2 26 #[.int .i64 st,.int .i64 z0,.int .i64 z1,.slice EA k EC]).alloc (.cells #[.slice ZA k ZC,.slice NA k NC] 32)
 have hM : EvsAt ((w2.alloc (.cells #[.int .i64 st,.int .i64 z0,.int .i64 z1,.slice EA k EC] 26)).alloc (.cells #[.slice ZA k ZC,.slice NA k NC] 32)) ((w2.alloc (.cells #[.int .i64 st,.int .i64 z0,.int .i64 z1,.slice EA k EC] 26)).alloc (.cells #[.slice ZA k ZC,.slice NA k NC] 32)).heap.size EA es:=(((own_evs2 hoe hel).alloc (Nat.le_refl _) _).alloc (by simp) _).more (by simp; omega)
 have hf : Fd g ((w2.alloc (.cells #[.int .i64 st,.int .i64 z0,.int .i64 z1,.slice EA k EC] 26)).alloc (.cells #[.slice ZA k ZC,.slice NA k NC] 32)):=(hfd2.alloc _).alloc _
 have hgL:=hfd2.lt
 have hBV:=(hB2.alloc hB2.size (.cells #[.int .i64 st,.int .i64 z0,.int .i64 z1,.slice EA k EC] 26)).alloc (by have:=hB2.size; simp; omega) (.cells #[.slice ZA k ZC,.slice NA k NC] 32)
 obtain ⟨V0,hV⟩ : ∃ x,((w2.alloc (.cells #[.int .i64 st,.int .i64 z0,.int .i64 z1,.slice EA k EC] 26)).alloc (.cells #[.slice ZA k ZC,.slice NA k NC] 32)) = x:=⟨_,rfl⟩
 rw [hV] at P kD kL hM hf hBV ⊢
 obtain ⟨bL,hbL⟩ : ∃ b,w2.heap.size = b:=⟨_,rfl⟩
 rw [hbL] at kL hgL ⊢
 have HEL:=Lib.hid hel
 clear hel hes hV hoe hoz hon hfd2 hgr2 hmd hlen hBw hB1 hB2 H0 hb1 hgl hfd hk hg0 hbL
 obtain ⟨l0,l1,l2,l3,lf,lz⟩:=kL.four
 go_upto_region 6 with (first | (go_at_call 26; refine (slipOf_any g st z0 z1 EA k EC es 3 _ hf HEL.out (by omega) hM (by omega) (by omega)).mono ?_; rintro e V ⟨FA,fn,fc,BA,bn,bc,fs,bs,d0,d1,F,B,l,j,rfl,hFn,hBn,hF,hBs,⟨hfc,hbc⟩,hat,hsp,hfs,hbs,dr1,dr2,dr3,hfd3,hgr3⟩) | fail)
 clear l0 l1 l2 l3 lf lz
 have hfn3 : fn ≤ 3:=by rw [← hFn]; exact hsp.fl
 have hbn3 : bn ≤ 3:=by rw [← hBn]; exact hsp.bl
 have HFN:=Lib.hid hFn
 have HBN:=Lib.hid hBn
 have M : MX bL V.heap.size st z0 z1 EA k EC es FA fn fc BA bn bc fs bs d0 d1 F B (V.alloc (.cells #[.slice FA fn fc,.slice BA bn bc,.int .i64 fs,.int .i64 bs,.int .i64 d0,.int .i64 d1] 50)):=⟨(kL.grown hgr3 (by simp; omega)).alloc _,Bx.new V 50 #[.slice FA fn fc,.slice BA bn bc,.int .i64 fs,.int .i64 bs,.int .i64 d0,.int .i64 d1],((EvsAt.alloc ((Sl.ft hM hf hgr3 (evs_no es)).more hgr3.size) (Nat.le_refl _) _).more (by simp)),(hF.alloc (Nat.le_refl _) _).more (by simp),(hBs.alloc (Nat.le_refl _) _).more (by simp)⟩
 replace P:=(P.gr hf hgr3 (by omega)).al (.cells #[.slice FA fn fc,.slice BA bn bc,.int .i64 fs,.int .i64 bs,.int .i64 d0,.int .i64 d1] 50)
 replace kD:=(kD.grown hgr3 (by simp; omega)).alloc (.cells #[.slice FA fn fc,.slice BA bn bc,.int .i64 fs,.int .i64 bs,.int .i64 d0,.int .i64 d1] 50)
 have hgS:=hfd3.lt
 have hf1:=hfd3.alloc (.cells #[.slice FA fn fc,.slice BA bn bc,.int .i64 fs,.int .i64 bs,.int .i64 d0,.int .i64 d1] 50)
 have hB1:=(hBV.grown hgr3 hBV.size (fun k e => by cases e; exact hgw)).alloc (by have:=hBV.size; have:=hgr3.size; omega) (.cells #[.slice FA fn fc,.slice BA bn bc,.int .i64 fs,.int .i64 bs,.int .i64 d0,.int .i64 d1] 50)
 obtain ⟨V1,hV1⟩ : ∃ x,V.alloc (.cells #[.slice FA fn fc,.slice BA bn bc,.int .i64 fs,.int .i64 bs,.int .i64 d0,.int .i64 d1] 50) = x:=⟨_,rfl⟩
 rw [hV1] at M P kD hf1 hB1 ⊢
 obtain ⟨bS,hbS⟩ : ∃ b,V.heap.size = b:=⟨_,rfl⟩
 rw [hbS] at M hgS ⊢
 clear hV1 hbS hf hgr3 hfd3 hF hBs hat hsp kL hM hFn hBn hBV
 go_cut [14,15,16] (fun v14 v15 v16 wx => ∃ (bA bB bC : Nat) (p0 p1 : Int),v14 = .slice (some ⟨bA,0,none⟩) 4 4 ∧ v15 = .slice (some ⟨bB,0,none⟩) 4 4 ∧ v16 = .slice (some ⟨bC,0,none⟩) 4 4 ∧ Bx wx bA 26 #[.int .i64 x0,.int .i64 x1,.int .i64 x2,.slice XA xn xc,.int .i64 st,.int .i64 z0,.int .i64 z1,.slice EA k EC,.int .i64 st,.int .i64 z0,.int .i64 z1,.slice EA k EC,.int .i64 st,.int .i64 z0,.int .i64 z1,.slice EA k EC] ∧ Bx wx bB 50 #[.slice SFA sfn sfc,.slice SBA sbn sbc,.int .i64 sfs,.int .i64 sbs,.int .i64 sd0,.int .i64 sd1,.slice FA fn fc,.slice BA bn bc,.int .i64 fs,.int .i64 bs,.int .i64 d0,.int .i64 d1,.slice SFA sfn sfc,.slice SBA sbn sbc,.int .i64 sfs,.int .i64 sbs,.int .i64 sd0,.int .i64 sd1,.slice FA fn fc,.slice BA bn bc,.int .i64 fs,.int .i64 bs,.int .i64 d0,.int .i64 d1] ∧ Bx wx bC 23 #[.int .i64 q0,.int .i64 q1,.int .i64 p0,.int .i64 p1,.int .i64 q0,.int .i64 q1,.int .i64 q0,.int .i64 q1] ∧ FT g V1 wx)
 case first =>
  refine AnyG.start (FT g V1) (fun i => true) (by as_aux_lemma => kernel_rfl) ?_
  have hS : (FT g V1) (World.drew _):=⟨grown_drew _ _,hf1.drew⟩
  refine AnyG.take (i:=0) (v:=?_) rfl (by as_aux_lemma => kernel_rfl) (fun _ _ _ h => h) rfl ?_ hS ?_
  rotate_left
  ·(intro w' hSw; (try dsimp only at hSw); obtain ⟨l0,l1,l2,l3,l4,l5⟩:=(hSw.bx P.kX (by omega)).four; go_simp; try with_reducible rfl)
  try simp only [Act.put,Sp1,Sp2,Sp3,Sp4,Sp5,Sp6]
  refine AnyG.take (i:=1) (v:=?_) rfl (by as_aux_lemma => kernel_rfl) (fun _ _ _ h => h) rfl ?_ hS ?_
  rotate_left
  ·(intro w' hSw; (try dsimp only at hSw); obtain ⟨l0,l1,l2,l3,l4,l5⟩:=(hSw.bx M.kL (by omega)).four; go_simp; try with_reducible rfl)
  try simp only [Act.put,Sp1,Sp2,Sp3,Sp4,Sp5,Sp6]
  refine AnyG.take (i:=2) (v:=?_) rfl (by as_aux_lemma => kernel_rfl) (fun _ _ _ h => h) rfl ?_ hS ?_
  rotate_left
  ·(intro w' hSw; (try dsimp only at hSw); obtain ⟨l0,l1,l2,l3,l4,l5⟩:=(hSw.bx M.kL (by omega)).four; go_simp; try with_reducible rfl)
  try simp only [Act.put,Sp1,Sp2,Sp3,Sp4,Sp5,Sp6]
  refine AnyG.take (i:=3) (v:=?_) rfl (by as_aux_lemma => kernel_rfl) (fun _ _ _ h => h) rfl ?_ hS ?_
  rotate_left
  ·(intro w' hSw; (try dsimp only at hSw); obtain ⟨l0,l1,l2,l3,l4,l5⟩:=(hSw.bx M.kL (by omega)).four; go_simp; try with_reducible rfl)
  try simp only [Act.put,Sp1,Sp2,Sp3,Sp4,Sp5,Sp6]
  refine AnyG.take (i:=5) (v:=?_) rfl (by as_aux_lemma => kernel_rfl) (fun _ _ _ h => h) rfl ?_ hS ?_
  rotate_left
  ·(intro w' hSw; (try dsimp only at hSw); obtain ⟨l0,l1,l2,l3,l4,l5,l6,l7⟩:=(hSw.bx P.kS (by omega)).six; go_simp; try with_reducible rfl)
  try simp only [Act.put,Sp1,Sp2,Sp3,Sp4,Sp5,Sp6]
  refine AnyG.take (i:=6) (v:=?_) rfl (by as_aux_lemma => kernel_rfl) (fun _ _ _ h => h) rfl ?_ hS ?_
  rotate_left
  ·(intro w' hSw; (try dsimp only at hSw); obtain ⟨l0,l1,l2,l3,l4,l5,l6,l7⟩:=(hSw.bx M.kM (by omega)).six; go_simp; try with_reducible rfl)
  try simp only [Act.put,Sp1,Sp2,Sp3,Sp4,Sp5,Sp6]
  refine AnyG.take (i:=7) (v:=?_) rfl (by as_aux_lemma => kernel_rfl) (fun _ _ _ h => h) rfl ?_ hS ?_
  rotate_left
  ·(intro w' hSw; (try dsimp only at hSw); obtain ⟨l0,l1,l2,l3,l4,l5,l6,l7⟩:=(hSw.bx P.kS (by omega)).six; go_simp; try with_reducible rfl)
  try simp only [Act.put,Sp1,Sp2,Sp3,Sp4,Sp5,Sp6]
  refine AnyG.take (i:=8) (v:=?_) rfl (by as_aux_lemma => kernel_rfl) (fun _ _ _ h => h) rfl ?_ hS ?_
  rotate_left
  ·(intro w' hSw; (try dsimp only at hSw); obtain ⟨l0,l1,l2,l3,l4,l5,l6,l7⟩:=(hSw.bx M.kM (by omega)).six; go_simp; try with_reducible rfl)
  try simp only [Act.put,Sp1,Sp2,Sp3,Sp4,Sp5,Sp6]
  refine AnyG.take (i:=10) (v:=?_) rfl (by as_aux_lemma => kernel_rfl) (fun _ _ _ h => h) rfl ?_ hS ?_
  rotate_left
  ·(intro w' hSw; (try dsimp only at hSw); obtain ⟨l0,l1,l2,l3⟩:=(hSw.bx kD (by omega)).two; go_simp; try with_reducible rfl)
  try simp only [Act.put,Sp1,Sp2,Sp3,Sp4,Sp5,Sp6]
  refine AnyG.take (i:=11) (v:=?_) rfl (by as_aux_lemma => kernel_rfl) (fun _ _ _ h => h) rfl ?_ hS ?_
  rotate_left
  ·(intro w' _; go_simp; try with_reducible rfl)
  try simp only [Act.put,Sp1,Sp2,Sp3,Sp4,Sp5,Sp6]
  refine AnyG.take (i:=13) (v:=?_) rfl (by as_aux_lemma => kernel_rfl) (fun _ _ _ h => h) rfl ?_ hS ?_
  rotate_left
  ·(intro w' hSw; (try dsimp only at hSw); obtain ⟨l0,l1,l2,l3⟩:=(hSw.bx kD (by omega)).two; go_simp; try with_reducible rfl)
  try simp only [Act.put,Sp1,Sp2,Sp3,Sp4,Sp5,Sp6]
  refine AnyG.take (i:=14) (v:=?_) rfl (by as_aux_lemma => kernel_rfl) (fun _ _ _ h => h) rfl ?_ hS ?_
  rotate_left
  ·(intro w' hSw; (try dsimp only at hSw); obtain ⟨l0,l1,l2,l3⟩:=(hSw.bx kD (by omega)).two; go_simp; try with_reducible rfl)
  try simp only [Act.put,Sp1,Sp2,Sp3,Sp4,Sp5,Sp6]
  refine RegRel.AnyG.rel3 [0,1,2,3,5,6,7,8,10,11,13,14] [] [[],[],[],[],[],[],[],[],[],[],[],[],[],[],[],[12],[4,12],[4,9,12,16],[4,9,12,15,16,17]] [(62,4),(67,9),(70,12),(73,15),(14,16),(15,17),(16,18)] (FT g V1) (fun _ => FK g) [(4,fun vs w1 => ∃ q : Nat,vs 4 = .slice (some ⟨q,0,none⟩) 4 4 ∧ q ≠ g ∧ Bx w1 q 26 #[.int .i64 x0,.int .i64 x1,.int .i64 x2,.slice XA xn xc,.int .i64 st,.int .i64 z0,.int .i64 z1,.slice EA k EC,.int .i64 st,.int .i64 z0,.int .i64 z1,.slice EA k EC,.int .i64 st,.int .i64 z0,.int .i64 z1,.slice EA k EC]),(9,fun vs w1 => ∃ q : Nat,vs 9 = .slice (some ⟨q,0,none⟩) 4 4 ∧ q ≠ g ∧ Bx w1 q 50 #[.slice SFA sfn sfc,.slice SBA sbn sbc,.int .i64 sfs,.int .i64 sbs,.int .i64 sd0,.int .i64 sd1,.slice FA fn fc,.slice BA bn bc,.int .i64 fs,.int .i64 bs,.int .i64 d0,.int .i64 d1,.slice SFA sfn sfc,.slice SBA sbn sbc,.int .i64 sfs,.int .i64 sbs,.int .i64 sd0,.int .i64 sd1,.slice FA fn fc,.slice BA bn bc,.int .i64 fs,.int .i64 bs,.int .i64 d0,.int .i64 d1]),(12,fun vs w1 => ∃ p0 p1 : Int,vs 12 = .agg #[.int .i64 p0,.int .i64 p1]),(15,fun vs w1 => ∃ q : Nat,vs 15 = .slice (some ⟨q,0,none⟩) 4 4 ∧ q ≠ g ∧ RBx q0 q1 q w1),(16,fun vs w1 => ∃ q : Nat,vs 16 = .slice (some ⟨q,0,none⟩) 4 4 ∧ q ≠ g ∧ Bx w1 q 26 #[.int .i64 x0,.int .i64 x1,.int .i64 x2,.slice XA xn xc,.int .i64 st,.int .i64 z0,.int .i64 z1,.slice EA k EC,.int .i64 st,.int .i64 z0,.int .i64 z1,.slice EA k EC,.int .i64 st,.int .i64 z0,.int .i64 z1,.slice EA k EC]),(17,fun vs w1 => ∃ q : Nat,vs 17 = .slice (some ⟨q,0,none⟩) 4 4 ∧ q ≠ g ∧ Bx w1 q 50 #[.slice SFA sfn sfc,.slice SBA sbn sbc,.int .i64 sfs,.int .i64 sbs,.int .i64 sd0,.int .i64 sd1,.slice FA fn fc,.slice BA bn bc,.int .i64 fs,.int .i64 bs,.int .i64 d0,.int .i64 d1,.slice SFA sfn sfc,.slice SBA sbn sbc,.int .i64 sfs,.int .i64 sbs,.int .i64 sd0,.int .i64 sd1,.slice FA fn fc,.slice BA bn bc,.int .i64 fs,.int .i64 bs,.int .i64 d0,.int .i64 d1]),(18,fun vs w1 => ∃ q : Nat,vs 18 = .slice (some ⟨q,0,none⟩) 4 4 ∧ q ≠ g ∧ RBx q0 q1 q w1)]
   (by as_aux_lemma => kernel_rfl) (by as_aux_lemma => kernel_rfl) (by as_aux_lemma => kernel_rfl) (by as_aux_lemma => decide) (by as_aux_lemma => decide) hS (fun _ h => h) (fun _ _ _ h k => h.step k) ?hst ?hcg ?hstep ?hfin
  case hst => exact ⟨fun j vs w1 w2 hjd hjz hjp hji h ht hk => (by obtain ⟨q,e1,e2,e3⟩:=h; exact ⟨q,e1,e2,hk.bx e3 e2⟩),fun j vs w1 w2 hjd hjz hjp hji h ht hk => (by obtain ⟨q,e1,e2,e3⟩:=h; exact ⟨q,e1,e2,hk.bx e3 e2⟩),fun j vs w1 w2 hjd hjz hjp hji h ht hk => h,fun j vs w1 w2 hjd hjz hjp hji h ht hk => (by obtain ⟨q,e1,e2,p0,p1,e3⟩:=h; exact ⟨q,e1,e2,p0,p1,hk.bx e3 e2⟩),fun j vs w1 w2 hjd hjz hjp hji h ht hk => (by obtain ⟨q,e1,e2,e3⟩:=h; exact ⟨q,e1,e2,hk.bx e3 e2⟩),fun j vs w1 w2 hjd hjz hjp hji h ht hk => (by obtain ⟨q,e1,e2,e3⟩:=h; exact ⟨q,e1,e2,hk.bx e3 e2⟩),fun j vs w1 w2 hjd hjz hjp hji h ht hk => (by obtain ⟨q,e1,e2,p0,p1,e3⟩:=h; exact ⟨q,e1,e2,p0,p1,hk.bx e3 e2⟩),trivial⟩
  case hcg => exact ⟨fun vs vs2 _ he h => (by dsimp only at h ⊢; rw [he 4 (by simp)]; exact h),fun vs vs2 _ he h => (by dsimp only at h ⊢; rw [he 9 (by simp)]; exact h),fun vs vs2 _ he h => (by dsimp only at h ⊢; rw [he 12 (by simp)]; exact h),fun vs vs2 _ he h => (by dsimp only at h ⊢; rw [he 15 (by simp)]; exact h),fun vs vs2 _ he h => (by dsimp only at h ⊢; rw [he 16 (by simp)]; exact h),fun vs vs2 _ he h => (by dsimp only at h ⊢; rw [he 17 (by simp)]; exact h),fun vs vs2 _ he h => (by dsimp only at h ⊢; rw [he 18 (by simp)]; exact h),trivial⟩
  case hstep =>
   refine ⟨?_,?_,?_,?_,?_,?_,?_,trivial⟩
   ·rintro vs v1 - ⟨hgr,hfd⟩
    refine ⟨_,_,rfl,rfl,?_⟩
    clear hS
    simp only [RegRel.fillT,List.foldl_cons,List.foldl_nil,Sp4,Sp5,Sp6]
    go_simp
    have hlt:=hfd.lt
    refine ⟨⟨_,rfl,by omega,Bx.new _ _ _⟩,FK.alloc _ _ _⟩
   ·rintro vs v1 - ⟨hgr,hfd⟩
    refine ⟨_,_,rfl,rfl,?_⟩
    clear hS
    simp only [RegRel.fillT,List.foldl_cons,List.foldl_nil,Sp4,Sp5,Sp6]
    go_simp
    have hlt:=hfd.lt
    refine ⟨⟨_,rfl,by omega,Bx.new _ _ _⟩,FK.alloc _ _ _⟩
   ·rintro vs v1 - ⟨hgr,hfd⟩
    refine ⟨_,_,rfl,rfl,?_⟩
    clear hS
    simp only [RegRel.fillT,List.foldl_cons,List.foldl_nil,Sp4,Sp5,Sp6]
    go_simp
    refine (range_any g 0 1000 _ hfd (by omega) (by omega) (by omega)).mono ?_
    rintro rr v2 ⟨⟨a,b,rfl,hp0,hp01,hp1⟩,hf2,hg2⟩
    first | exact ⟨⟨a,b,rfl⟩,⟨hg2,fun _ => hf2⟩,rfl⟩ | exact ⟨⟨a,b,rfl⟩,⟨hg2,fun _ => hf2⟩⟩ | trace_state
   ·rintro vs v1 ⟨⟨p0,p1,h12⟩,-⟩ ⟨hgr,hfd⟩
    refine ⟨_,_,rfl,rfl,?_⟩
    clear hS
    try dsimp only at h12
    simp only [RegRel.fillT,List.foldl_cons,List.foldl_nil,Sp4,Sp5,Sp6]
    try simp only [h12]
    try clear h12
    go_simp
    have hlt:=hfd.lt
    first | exact ⟨⟨_,rfl,by omega,p0,p1,Bx.new _ _ _⟩,FK.alloc _ _ _,rfl⟩ | exact ⟨⟨_,rfl,by omega,p0,p1,Bx.new _ _ _⟩,FK.alloc _ _ _⟩ | trace_state
   ·rintro vs v1 ⟨⟨q4,h4,hq4,hb4⟩,⟨p0,p1,h12⟩,-⟩ ⟨hgr,hfd⟩
    refine ⟨_,_,rfl,rfl,?_⟩
    clear hS
    try dsimp only at h4 h12
    simp only [RegRel.fillT,List.foldl_cons,List.foldl_nil,Sp4,Sp5,Sp6]
    try simp only [h4,h12]
    try clear h4 h12
    go_simp
    first | exact ⟨⟨q4,rfl,hq4,hb4⟩,⟨grown_refl _ _,fun h => h⟩,rfl⟩ | exact ⟨⟨q4,rfl,hq4,hb4⟩,⟨grown_refl _ _,fun h => h⟩⟩ | trace_state
   ·rintro vs v1 ⟨⟨q4,h4,hq4,hb4⟩,⟨q9,h9,hq9,hb9⟩,⟨p0,p1,h12⟩,⟨q16,h16,hq16,hb16⟩,-⟩ ⟨hgr,hfd⟩
    refine ⟨_,_,rfl,rfl,?_⟩
    clear hS
    try dsimp only at h4 h9 h12 h16
    simp only [RegRel.fillT,List.foldl_cons,List.foldl_nil,Sp4,Sp5,Sp6]
    try simp only [h4,h9,h12,h16]
    try clear h4 h9 h12 h16
    go_simp
    first | exact ⟨⟨q9,rfl,hq9,hb9⟩,⟨grown_refl _ _,fun h => h⟩,rfl⟩ | exact ⟨⟨q9,rfl,hq9,hb9⟩,⟨grown_refl _ _,fun h => h⟩⟩ | trace_state
   ·rintro vs v1 ⟨⟨q4,h4,hq4,hb4⟩,⟨q9,h9,hq9,hb9⟩,⟨p0,p1,h12⟩,⟨q15,h15,hq15,hb15⟩,⟨q16,h16,hq16,hb16⟩,⟨q17,h17,hq17,hb17⟩,-⟩ ⟨hgr,hfd⟩
    refine ⟨_,_,rfl,rfl,?_⟩
    clear hS
    try dsimp only at h4 h9 h12 h15 h16 h17
    simp only [RegRel.fillT,List.foldl_cons,List.foldl_nil,Sp4,Sp5,Sp6]
    try simp only [h4,h9,h12,h15,h16,h17]
    try clear h4 h9 h12 h15 h16 h17
    go_simp
    first | exact ⟨⟨q15,rfl,hq15,hb15⟩,⟨grown_refl _ _,fun h => h⟩,rfl⟩ | exact ⟨⟨q15,rfl,hq15,hb15⟩,⟨grown_refl _ _,fun h => h⟩⟩ | trace_state
  case hfin =>
   rintro vs v1 ⟨⟨q4,h4,hq4,hb4⟩,⟨q9,h9,hq9,hb9⟩,⟨p0,p1,h12⟩,⟨q15,h15,hq15,hb15⟩,⟨q16,h16,hq16,hb16⟩,⟨q17,h17,hq17,hb17⟩,⟨q18,h18,hq18,hb18⟩,-⟩ ⟨hgr,hfd⟩
   clear hS
   try dsimp only at h4 h9 h12 h15 h16 h17 h18
   simp only [List.filter_cons,List.contains_cons,List.contains_nil,Nat.reduceBEq,Bool.or_false,Bool.not_false,if_true,List.filter_nil]
   simp only [RegRel.fillT,List.foldl_cons,List.foldl_nil,Sp4,Sp5,Sp6]
   simp only [h4,h9,h12,h15,h16,h17,h18]
   clear h4 h9 h12 h15 h16 h17 h18
   refine RegRel.wpOps_end ?_
   go_simp
   go_wp2_with fail
   go_meet
   obtain ⟨pa18,pb18,hb18⟩:=hb18
   exact ⟨q16,q17,q18,pa18,pb18,rfl,rfl,rfl,hb16,hb17,hb18,⟨hgr,hfd⟩⟩
 case rest =>
  obtain ⟨bA,bB,bC,p0,p1,rfl,rfl,rfl,kA,kB,kC,hT⟩:=hcut
  obtain ⟨U,rfl⟩ : ∃ x,x = wc:=⟨_,rfl⟩
  have PU:=P.gr hf1 hT.1 (by omega)
  have MU:=M.gr hf1 hT.1 (by omega) (by omega)
  have hBU:=hT.be hB1 hgw
  have hD : ∀ i,i < 4 → ∃ d s p q,LogAt bA i d U ∧ SlipRow bB i s U ∧ RngRow bC i p q U:=by
   intro i hi
   match i,hi with
   | 0,_ => exact ⟨⟨x0,x1,x2,XA,xc,xs⟩,⟨SFA,sfc,SBA,sbc,sfs,sbs,sd0,sd1,SF,SB⟩,q0,q1,⟨kA.cell 0,kA.cell 1,kA.cell 2,by dsimp only; rw [HXL.out]; exact kA.cell 3,PU.ev,by dsimp only; rw [HXL.out]; omega,kA.lt⟩,⟨by dsimp only; rw [HSFL.out]; exact kB.cell 0,by dsimp only; rw [HSBL.out]; exact kB.cell 1,kB.cell 2,kB.cell 3,kB.cell 4,kB.cell 5,PU.sf,PU.sb,by dsimp only; rw [HSFL.out]; omega,by dsimp only; rw [HSBL.out]; omega,kB.lt⟩,⟨kC.cell 0,kC.cell 1,kC.lt⟩⟩
   | 1,_ => exact ⟨⟨st,z0,z1,EA,EC,es⟩,⟨FA,fc,BA,bc,fs,bs,d0,d1,F,B⟩,p0,p1,⟨kA.cell 4,kA.cell 5,kA.cell 6,by dsimp only; rw [HEL.out]; exact kA.cell 7,MU.ev,by dsimp only; rw [HEL.out]; omega,kA.lt⟩,⟨by dsimp only; rw [HFN.out]; exact kB.cell 6,by dsimp only; rw [HBN.out]; exact kB.cell 7,kB.cell 8,kB.cell 9,kB.cell 10,kB.cell 11,MU.sf,MU.sb,by dsimp only; rw [HFN.out]; omega,by dsimp only; rw [HBN.out]; omega,kB.lt⟩,⟨kC.cell 2,kC.cell 3,kC.lt⟩⟩
   | 2,_ => exact ⟨⟨st,z0,z1,EA,EC,es⟩,⟨SFA,sfc,SBA,sbc,sfs,sbs,sd0,sd1,SF,SB⟩,q0,q1,⟨kA.cell 8,kA.cell 9,kA.cell 10,by dsimp only; rw [HEL.out]; exact kA.cell 11,MU.ev,by dsimp only; rw [HEL.out]; omega,kA.lt⟩,⟨by dsimp only; rw [HSFL.out]; exact kB.cell 12,by dsimp only; rw [HSBL.out]; exact kB.cell 13,kB.cell 14,kB.cell 15,kB.cell 16,kB.cell 17,PU.sf,PU.sb,by dsimp only; rw [HSFL.out]; omega,by dsimp only; rw [HSBL.out]; omega,kB.lt⟩,⟨kC.cell 4,kC.cell 5,kC.lt⟩⟩
   | 3,_ => exact ⟨⟨st,z0,z1,EA,EC,es⟩,⟨FA,fc,BA,bc,fs,bs,d0,d1,F,B⟩,q0,q1,⟨kA.cell 12,kA.cell 13,kA.cell 14,by dsimp only; rw [HEL.out]; exact kA.cell 15,MU.ev,by dsimp only; rw [HEL.out]; omega,kA.lt⟩,⟨by dsimp only; rw [HFN.out]; exact kB.cell 18,by dsimp only; rw [HBN.out]; exact kB.cell 19,kB.cell 20,kB.cell 21,kB.cell 22,kB.cell 23,MU.sf,MU.sb,by dsimp only; rw [HFN.out]; omega,by dsimp only; rw [HBN.out]; omega,kB.lt⟩,⟨kC.cell 6,kC.cell 7,kC.lt⟩⟩
  have HD:=Lib.hid hD
  clear hD kA kB kC hT PU MU P M kD hf1 hB1
  go_wp2_with fail
  go_loopw [17] (fun v17 wr => ∃ i : Nat,i ≤ 4 ∧ v17 = .int .i64 i ∧ Below U.heap.size U wr) (fun v17 _ => 4 - (intOf v17).toNat)
  case atStart => exact ⟨0,by omega,rfl,Below.refl _ _⟩
  case round =>
   obtain ⟨w4,rfl⟩ : ∃ x,x = wr:=⟨_,rfl⟩
   obtain ⟨i,hi,rfl,hB⟩:=hrel
   by_cases hi4 : i < 4
   ·obtain ⟨d,s,qa,qb,hd,hs,hr⟩:=HD.out i hi4
    have hr4:=hr.bel hB
    clear hr
    have hd4:=hd.bel hB
    have hs4:=hs.bel hB
    obtain ⟨st1,za,zb,A1,c1,es1⟩:=d
    obtain ⟨FA1,fc1,BA1,bc1,fs1,bs1,d01,d11,F1,B1⟩:=s
    have hlen:=hd4.len
    have hl1:=hs4.l1
    have hl2:=hs4.l2
    dsimp only at hlen hl1 hl2
    obtain ⟨n1,hn1⟩ : ∃ r,es1.length = r:=⟨_,rfl⟩
    obtain ⟨f1,hf1⟩ : ∃ r,F1.length = r:=⟨_,rfl⟩
    obtain ⟨b1,hb1⟩ : ∃ r,B1.length = r:=⟨_,rfl⟩
    have HN1:=Lib.hid hn1
    have HF1:=Lib.hid hf1
    have HB1:=Lib.hid hb1
    rw [hn1] at hlen
    rw [hf1] at hl1
    rw [hb1] at hl2
    clear hn1 hf1 hb1 hd hs
    obtain ⟨R1,R2,E,hNX⟩:=NetX.some st1 za zb es1 F1 B1 fs1 bs1 d01 d11
    have HNX:=Lib.hid hNX
    clear hNX
    obtain ⟨CE,hCE⟩ : ∃ x,ckS st1 za zb es1 F1 B1 fs1 bs1 d01 d11 = x:=⟨_,rfl⟩
    have HCE:=Lib.hid hCE
    clear hCE
    obtain ⟨P1,hP1⟩ : ∃ x,pdV CE qa qb E R1 qb = x:=⟨_,rfl⟩
    obtain ⟨P2,hP2⟩ : ∃ x,pdV CE qa qb E R2 qa = x:=⟨_,rfl⟩
    obtain ⟨PE,hPE⟩ : ∃ x,pdE CE qa qb E = x:=⟨_,rfl⟩
    have HPD:=Lib.hid (And.intro hP1 (And.intro hP2 hPE))
    clear hP1 hP2 hPE
    go_upto_region 10 with fail
    go_cut [18,19] (fun v18 v19 wx => ∃ (b18 b19 : Nat) (A2 : Option Addr) (c2 : Nat) (FA2 : Option Addr) (fc2 : Nat) (BA2 : Option Addr) (bc2 : Nat),v18 = .pointer (some ⟨b18,0,none⟩) ∧ v19 = .pointer (some ⟨b19,0,none⟩) ∧ Bx wx b18 26 #[.int .i64 st1,.int .i64 za,.int .i64 zb,.slice A2 n1 c2] ∧ Bx wx b19 50 #[.slice FA2 f1 fc2,.slice BA2 b1 bc2,.int .i64 fs1,.int .i64 bs1,.int .i64 d01,.int .i64 d11] ∧ EvsAt wx wx.heap.size A2 es1 ∧ Sl wx wx.heap.size 1 FA2 (ints F1) ∧ Sl wx wx.heap.size 1 BA2 (ints B1) ∧ Below w4.heap.size w4 wx)
    case first =>
     apply by_tail (Hy:=fun y b18 b19 A2 c2 FA2 fc2 BA2 bc2 => Below w4.heap.size w4 y ∧ y.ownsRow 0 28 5 (.slice A2 n1 c2) n1 (es1.map Ev.cells).flatten ∧ y.ownsRow 0 3 1 (.slice FA2 f1 fc2) f1 (ints F1).flatten ∧ y.ownsRow 0 3 1 (.slice BA2 b1 bc2) b1 (ints B1).flatten ∧ Bx y b18 26 #[.int .i64 0,.int .i64 0,.int .i64 0,.slice none 0 0] ∧ Bx y b19 50 #[.slice none 0 0,.slice none 0 0,.int .i64 0,.int .i64 0,.int .i64 0,.int .i64 0] ∧ w4.heap.size ≤ b18 ∧ w4.heap.size ≤ b19 ∧ b18 ≠ b19)
     case main =>
      intro tail
      refine AnyG.startC (by as_aux_lemma => kernel_rfl) ?_
      refine AnyG.takeP (i:=0) (v:=?_) rfl (by as_aux_lemma => kernel_rfl) (fun _ _ _ h => h) rfl ?_ ?_
      rotate_left
      ·(intro w'; go_simp; try with_reducible rfl)
      try simp only [Act.put,Sp1,Sp2,Sp3,Sp4,Sp5,Sp6]
      refine AnyG.takeP (i:=1) (v:=?_) rfl (by as_aux_lemma => kernel_rfl) (fun _ _ _ h => h) rfl ?_ ?_
      rotate_left
      ·(intro w'; go_simp; try with_reducible rfl)
      try simp only [Act.put,Sp1,Sp2,Sp3,Sp4,Sp5,Sp6]
      refine AnyG.takeP (i:=2) (v:=?_) rfl (by as_aux_lemma => kernel_rfl) (fun _ _ _ h => h) rfl ?_ ?_
      rotate_left
      ·(intro w'; go_simp; try with_reducible rfl)
      try simp only [Act.put,Sp1,Sp2,Sp3,Sp4,Sp5,Sp6]
      refine AnyG.takeP (i:=5) (v:=?_) rfl (by as_aux_lemma => kernel_rfl) (fun _ _ _ h => h) rfl ?_ ?_
      rotate_left
      ·(intro w'; go_simp; try with_reducible rfl)
      try simp only [Act.put,Sp1,Sp2,Sp3,Sp4,Sp5,Sp6]
      refine AnyG.takeP (i:=6) (v:=?_) rfl (by as_aux_lemma => kernel_rfl) (fun _ _ _ h => h) rfl ?_ ?_
      rotate_left
      ·(intro w'; go_simp; try with_reducible rfl)
      try simp only [Act.put,Sp1,Sp2,Sp3,Sp4,Sp5,Sp6]
      refine AnyG.takeP (i:=7) (v:=?_) rfl (by as_aux_lemma => kernel_rfl) (fun _ _ _ h => h) rfl ?_ ?_
      rotate_left
      ·(intro w'; go_simp; try with_reducible rfl)
      try simp only [Act.put,Sp1,Sp2,Sp3,Sp4,Sp5,Sp6]
      refine AnyG.enter (fun w' : World => Below w4.heap.size w4 w') (fun i => i != 12 && i != 13) ?_
      have hS : (fun w' : World => Below w4.heap.size w4 w') (w4.drew):=(Below.refl _ _).drew
      try dsimp only at hS
      obtain ⟨y0,hy0⟩ : ∃ y,w4.drew = y:=⟨_,rfl⟩
      rw [hy0] at hS ⊢
      clear hy0
      refine AnyG.takeC (i:=3) (v:=?_) rfl (by as_aux_lemma => kernel_rfl) (fun _ _ _ h => h) rfl ?_ hS ?_
      rotate_left
      ·(intro w' hSw; (try dsimp only at hSw); have Zl:=hd4.bel hSw; have r0:=Zl.c0; have r1:=Zl.c1; have r2:=Zl.c2; have r3:=Zl.c3; dsimp only at r0 r1 r2 r3; rw [HN1.out] at r3; go_simp; try with_reducible rfl)
      try simp only [Act.put,Sp1,Sp2,Sp3,Sp4,Sp5,Sp6]
      refine AnyG.takeC (i:=8) (v:=?_) rfl (by as_aux_lemma => kernel_rfl) (fun _ _ _ h => h) rfl ?_ hS ?_
      rotate_left
      ·(intro w' hSw; (try dsimp only at hSw); have Zs:=hs4.bel hSw; have v0:=Zs.c0; have v1:=Zs.c1; have v2:=Zs.c2; have v3:=Zs.c3; have v4:=Zs.c4; have v5:=Zs.c5; dsimp only at v0 v1 v2 v3 v4 v5; rw [HF1.out] at v0; rw [HB1.out] at v1; go_simp; try with_reducible rfl)
      try simp only [Act.put,Sp1,Sp2,Sp3,Sp4,Sp5,Sp6]
      refine AnyG.all (rs:=[4,10,11]) (by as_aux_lemma => kernel_rfl) (by simp) ?_
      intro ii hii
      simp only [List.mem_cons,List.not_mem_nil,or_false] at hii
      rcases hii with rfl | rfl | rfl
      ·refine ⟨_,rfl,rfl,?_⟩
       go_simp
       refine (copyLog_20 st1 za zb A1 n1 c1 es1 _ (by omega) HN1.out (hd4.bel hS).ev).mono ?_
       rintro er yl ⟨⟨A2,c2,rfl,ho⟩,hql⟩
       replace ho:=ownsRow_up (b':=0) ho (fun q e => Nat.zero_le _)
       have hSn:=hS.trans (hql.mono hS.size)
       clear hS
       refine Onward.on hSn (fun hS => ?_)
       try dsimp only at hS
       clear hSn
       try simp only [Act.put,Sp1,Sp2,Sp3,Sp4,Sp5,Sp6]
       refine AnyG.all (rs:=[9,10,11]) (by as_aux_lemma => kernel_rfl) (by simp) ?_
       intro ii hii
       simp only [List.mem_cons,List.not_mem_nil,or_false] at hii
       rcases hii with rfl | rfl | rfl
       ·refine ⟨_,rfl,rfl,?_⟩
        go_simp
        refine (copySlip_any FA1 f1 fc1 BA1 b1 bc1 fs1 bs1 d01 d11 F1 B1 _ (by omega) (by omega) HF1.out HB1.out (hs4.bel hS).sf (hs4.bel hS).sb).mono ?_
        rintro er ys ⟨⟨FA2,fc2,BA2,bc2,rfl,hsl⟩,hqs⟩
        replace ho:=own_bel ho hqs
        have hof:=ownsRow_up (b':=0) hsl.of (fun q e => Nat.zero_le _)
        have hob:=ownsRow_up (b':=0) hsl.ob (fun q e => Nat.zero_le _)
        clear hsl
        have hSn:=hS.trans (hqs.mono hS.size)
        clear hS
        refine Onward.on hSn (fun hS => ?_)
        try dsimp only at hS
        clear hSn
        try simp only [Act.put,Sp1,Sp2,Sp3,Sp4,Sp5,Sp6]
        refine AnyG.all (rs:=[10,11]) (by as_aux_lemma => kernel_rfl) (by simp) ?_
        intro ii hii
        simp only [List.mem_cons,List.not_mem_nil,or_false] at hii
        rcases hii with rfl | rfl
        ·refine ⟨_,rfl,rfl,?_⟩
         go_simp
         replace ho:=ho.alloc (.cells #[.int .i64 0,.int .i64 0,.int .i64 0,.slice none 0 0] 26)
         replace hof:=hof.alloc (.cells #[.int .i64 0,.int .i64 0,.int .i64 0,.slice none 0 0] 26)
         replace hob:=hob.alloc (.cells #[.int .i64 0,.int .i64 0,.int .i64 0,.slice none 0 0] 26)
         have k10:=Bx.new ys 26 #[.int .i64 0,.int .i64 0,.int .i64 0,.slice none 0 0]
         have hb18 : w4.heap.size ≤ ys.heap.size:=hS.size
         have hT:=hS.alloc hS.size (.cells #[.int .i64 0,.int .i64 0,.int .i64 0,.slice none 0 0] 26)
         obtain ⟨ya,hy⟩ : ∃ x,ys.alloc (.cells #[.int .i64 0,.int .i64 0,.int .i64 0,.slice none 0 0] 26) = x:=⟨_,rfl⟩
         rw [hy] at ho hof hob k10 hT ⊢
         obtain ⟨b18,hb_⟩ : ∃ p,ys.heap.size = p:=⟨_,rfl⟩
         rw [hb_] at k10 hb18 ⊢
         clear hy hb_
         have hSn:=hT
         clear hS
         refine Onward.on hSn (fun hS => ?_)
         try dsimp only at hS
         clear hSn
         try simp only [Act.put,Sp1,Sp2,Sp3,Sp4,Sp5,Sp6]
         refine AnyG.one (i:=11) (by as_aux_lemma => kernel_rfl) rfl rfl ?_
         go_simp
         have hne:=k10.lt
         replace ho:=ho.alloc (.cells #[.slice none 0 0,.slice none 0 0,.int .i64 0,.int .i64 0,.int .i64 0,.int .i64 0] 50)
         replace hof:=hof.alloc (.cells #[.slice none 0 0,.slice none 0 0,.int .i64 0,.int .i64 0,.int .i64 0,.int .i64 0] 50)
         replace hob:=hob.alloc (.cells #[.slice none 0 0,.slice none 0 0,.int .i64 0,.int .i64 0,.int .i64 0,.int .i64 0] 50)
         replace k10:=k10.alloc (.cells #[.slice none 0 0,.slice none 0 0,.int .i64 0,.int .i64 0,.int .i64 0,.int .i64 0] 50)
         have k11:=Bx.new ya 50 #[.slice none 0 0,.slice none 0 0,.int .i64 0,.int .i64 0,.int .i64 0,.int .i64 0]
         have hb19 : w4.heap.size ≤ ya.heap.size:=hS.size
         have hT:=hS.alloc hS.size (.cells #[.slice none 0 0,.slice none 0 0,.int .i64 0,.int .i64 0,.int .i64 0,.int .i64 0] 50)
         obtain ⟨yb,hy⟩ : ∃ x,ya.alloc (.cells #[.slice none 0 0,.slice none 0 0,.int .i64 0,.int .i64 0,.int .i64 0,.int .i64 0] 50) = x:=⟨_,rfl⟩
         rw [hy] at ho hof hob k10 k11 hT ⊢
         obtain ⟨b19,hb_⟩ : ∃ p,ya.heap.size = p:=⟨_,rfl⟩
         rw [hb_] at k11 hb19 hne ⊢
         clear hy hb_
         replace hne : b18 ≠ b19:=by omega
         have hSn:=hT
         clear hS
         refine Onward.on hSn (fun hS => ?_)
         try dsimp only at hS
         clear hSn
         try simp only [Act.put,Sp1,Sp2,Sp3,Sp4,Sp5,Sp6]
         refine AnyG.castL (L':=#[true,true,true,true,true,true,true,true,true,true,true,true,false,false]) (by as_aux_lemma => kernel_rfl) ?_
         exact tail yb b18 b19 A2 c2 FA2 fc2 BA2 bc2 ⟨hS,ho,hof,hob,k10,k11,hb18,hb19,hne⟩
        ·refine ⟨_,rfl,rfl,?_⟩
         go_simp
         replace ho:=ho.alloc (.cells #[.slice none 0 0,.slice none 0 0,.int .i64 0,.int .i64 0,.int .i64 0,.int .i64 0] 50)
         replace hof:=hof.alloc (.cells #[.slice none 0 0,.slice none 0 0,.int .i64 0,.int .i64 0,.int .i64 0,.int .i64 0] 50)
         replace hob:=hob.alloc (.cells #[.slice none 0 0,.slice none 0 0,.int .i64 0,.int .i64 0,.int .i64 0,.int .i64 0] 50)
         have k11:=Bx.new ys 50 #[.slice none 0 0,.slice none 0 0,.int .i64 0,.int .i64 0,.int .i64 0,.int .i64 0]
         have hb19 : w4.heap.size ≤ ys.heap.size:=hS.size
         have hT:=hS.alloc hS.size (.cells #[.slice none 0 0,.slice none 0 0,.int .i64 0,.int .i64 0,.int .i64 0,.int .i64 0] 50)
         obtain ⟨yb,hy⟩ : ∃ x,ys.alloc (.cells #[.slice none 0 0,.slice none 0 0,.int .i64 0,.int .i64 0,.int .i64 0,.int .i64 0] 50) = x:=⟨_,rfl⟩
         rw [hy] at ho hof hob k11 hT ⊢
         obtain ⟨b19,hb_⟩ : ∃ p,ys.heap.size = p:=⟨_,rfl⟩
         rw [hb_] at k11 hb19 ⊢
         clear hy hb_
         have hSn:=hT
         clear hS
         refine Onward.on hSn (fun hS => ?_)
         try dsimp only at hS
         clear hSn
         try simp only [Act.put,Sp1,Sp2,Sp3,Sp4,Sp5,Sp6]
         refine AnyG.one (i:=10) (by as_aux_lemma => kernel_rfl) rfl rfl ?_
         go_simp
         have hne:=k11.lt
         replace ho:=ho.alloc (.cells #[.int .i64 0,.int .i64 0,.int .i64 0,.slice none 0 0] 26)
         replace hof:=hof.alloc (.cells #[.int .i64 0,.int .i64 0,.int .i64 0,.slice none 0 0] 26)
         replace hob:=hob.alloc (.cells #[.int .i64 0,.int .i64 0,.int .i64 0,.slice none 0 0] 26)
         replace k11:=k11.alloc (.cells #[.int .i64 0,.int .i64 0,.int .i64 0,.slice none 0 0] 26)
         have k10:=Bx.new yb 26 #[.int .i64 0,.int .i64 0,.int .i64 0,.slice none 0 0]
         have hb18 : w4.heap.size ≤ yb.heap.size:=hS.size
         have hT:=hS.alloc hS.size (.cells #[.int .i64 0,.int .i64 0,.int .i64 0,.slice none 0 0] 26)
         obtain ⟨ya,hy⟩ : ∃ x,yb.alloc (.cells #[.int .i64 0,.int .i64 0,.int .i64 0,.slice none 0 0] 26) = x:=⟨_,rfl⟩
         rw [hy] at ho hof hob k11 k10 hT ⊢
         obtain ⟨b18,hb_⟩ : ∃ p,yb.heap.size = p:=⟨_,rfl⟩
         rw [hb_] at k10 hb18 hne ⊢
         clear hy hb_
         replace hne : b18 ≠ b19:=by omega
         have hSn:=hT
         clear hS
         refine Onward.on hSn (fun hS => ?_)
         try dsimp only at hS
         clear hSn
         try simp only [Act.put,Sp1,Sp2,Sp3,Sp4,Sp5,Sp6]
         refine AnyG.castL (L':=#[true,true,true,true,true,true,true,true,true,true,true,true,false,false]) (by as_aux_lemma => kernel_rfl) ?_
         exact tail ya b18 b19 A2 c2 FA2 fc2 BA2 bc2 ⟨hS,ho,hof,hob,k10,k11,hb18,hb19,hne⟩
       ·refine ⟨_,rfl,rfl,?_⟩
        go_simp
        replace ho:=ho.alloc (.cells #[.int .i64 0,.int .i64 0,.int .i64 0,.slice none 0 0] 26)
        have k10:=Bx.new yl 26 #[.int .i64 0,.int .i64 0,.int .i64 0,.slice none 0 0]
        have hb18 : w4.heap.size ≤ yl.heap.size:=hS.size
        have hT:=hS.alloc hS.size (.cells #[.int .i64 0,.int .i64 0,.int .i64 0,.slice none 0 0] 26)
        obtain ⟨ya,hy⟩ : ∃ x,yl.alloc (.cells #[.int .i64 0,.int .i64 0,.int .i64 0,.slice none 0 0] 26) = x:=⟨_,rfl⟩
        rw [hy] at ho k10 hT ⊢
        obtain ⟨b18,hb_⟩ : ∃ p,yl.heap.size = p:=⟨_,rfl⟩
        rw [hb_] at k10 hb18 ⊢
        clear hy hb_
        have hSn:=hT
        clear hS
        refine Onward.on hSn (fun hS => ?_)
        try dsimp only at hS
        clear hSn
        try simp only [Act.put,Sp1,Sp2,Sp3,Sp4,Sp5,Sp6]
        refine AnyG.all (rs:=[9,11]) (by as_aux_lemma => kernel_rfl) (by simp) ?_
        intro ii hii
        simp only [List.mem_cons,List.not_mem_nil,or_false] at hii
        rcases hii with rfl | rfl
        ·refine ⟨_,rfl,rfl,?_⟩
         go_simp
         refine (copySlip_any FA1 f1 fc1 BA1 b1 bc1 fs1 bs1 d01 d11 F1 B1 _ (by omega) (by omega) HF1.out HB1.out (hs4.bel hS).sf (hs4.bel hS).sb).mono ?_
         rintro er ys ⟨⟨FA2,fc2,BA2,bc2,rfl,hsl⟩,hqs⟩
         replace ho:=own_bel ho hqs
         have hof:=ownsRow_up (b':=0) hsl.of (fun q e => Nat.zero_le _)
         have hob:=ownsRow_up (b':=0) hsl.ob (fun q e => Nat.zero_le _)
         clear hsl
         replace k10:=k10.call hqs
         have hSn:=hS.trans (hqs.mono hS.size)
         clear hS
         refine Onward.on hSn (fun hS => ?_)
         try dsimp only at hS
         clear hSn
         try simp only [Act.put,Sp1,Sp2,Sp3,Sp4,Sp5,Sp6]
         refine AnyG.one (i:=11) (by as_aux_lemma => kernel_rfl) rfl rfl ?_
         go_simp
         have hne:=k10.lt
         replace ho:=ho.alloc (.cells #[.slice none 0 0,.slice none 0 0,.int .i64 0,.int .i64 0,.int .i64 0,.int .i64 0] 50)
         replace hof:=hof.alloc (.cells #[.slice none 0 0,.slice none 0 0,.int .i64 0,.int .i64 0,.int .i64 0,.int .i64 0] 50)
         replace hob:=hob.alloc (.cells #[.slice none 0 0,.slice none 0 0,.int .i64 0,.int .i64 0,.int .i64 0,.int .i64 0] 50)
         replace k10:=k10.alloc (.cells #[.slice none 0 0,.slice none 0 0,.int .i64 0,.int .i64 0,.int .i64 0,.int .i64 0] 50)
         have k11:=Bx.new ys 50 #[.slice none 0 0,.slice none 0 0,.int .i64 0,.int .i64 0,.int .i64 0,.int .i64 0]
         have hb19 : w4.heap.size ≤ ys.heap.size:=hS.size
         have hT:=hS.alloc hS.size (.cells #[.slice none 0 0,.slice none 0 0,.int .i64 0,.int .i64 0,.int .i64 0,.int .i64 0] 50)
         obtain ⟨yb,hy⟩ : ∃ x,ys.alloc (.cells #[.slice none 0 0,.slice none 0 0,.int .i64 0,.int .i64 0,.int .i64 0,.int .i64 0] 50) = x:=⟨_,rfl⟩
         rw [hy] at ho hof hob k10 k11 hT ⊢
         obtain ⟨b19,hb_⟩ : ∃ p,ys.heap.size = p:=⟨_,rfl⟩
         rw [hb_] at k11 hb19 hne ⊢
         clear hy hb_
         replace hne : b18 ≠ b19:=by omega
         have hSn:=hT
         clear hS
         refine Onward.on hSn (fun hS => ?_)
         try dsimp only at hS
         clear hSn
         try simp only [Act.put,Sp1,Sp2,Sp3,Sp4,Sp5,Sp6]
         refine AnyG.castL (L':=#[true,true,true,true,true,true,true,true,true,true,true,true,false,false]) (by as_aux_lemma => kernel_rfl) ?_
         exact tail yb b18 b19 A2 c2 FA2 fc2 BA2 bc2 ⟨hS,ho,hof,hob,k10,k11,hb18,hb19,hne⟩
        ·refine ⟨_,rfl,rfl,?_⟩
         go_simp
         have hne:=k10.lt
         replace ho:=ho.alloc (.cells #[.slice none 0 0,.slice none 0 0,.int .i64 0,.int .i64 0,.int .i64 0,.int .i64 0] 50)
         replace k10:=k10.alloc (.cells #[.slice none 0 0,.slice none 0 0,.int .i64 0,.int .i64 0,.int .i64 0,.int .i64 0] 50)
         have k11:=Bx.new ya 50 #[.slice none 0 0,.slice none 0 0,.int .i64 0,.int .i64 0,.int .i64 0,.int .i64 0]
         have hb19 : w4.heap.size ≤ ya.heap.size:=hS.size
         have hT:=hS.alloc hS.size (.cells #[.slice none 0 0,.slice none 0 0,.int .i64 0,.int .i64 0,.int .i64 0,.int .i64 0] 50)
         obtain ⟨yb,hy⟩ : ∃ x,ya.alloc (.cells #[.slice none 0 0,.slice none 0 0,.int .i64 0,.int .i64 0,.int .i64 0,.int .i64 0] 50) = x:=⟨_,rfl⟩
         rw [hy] at ho k10 k11 hT ⊢
         obtain ⟨b19,hb_⟩ : ∃ p,ya.heap.size = p:=⟨_,rfl⟩
         rw [hb_] at k11 hb19 hne ⊢
         clear hy hb_
         replace hne : b18 ≠ b19:=by omega
         have hSn:=hT
         clear hS
         refine Onward.on hSn (fun hS => ?_)
         try dsimp only at hS
         clear hSn
         try simp only [Act.put,Sp1,Sp2,Sp3,Sp4,Sp5,Sp6]
         refine AnyG.one (i:=9) (by as_aux_lemma => kernel_rfl) rfl rfl ?_
         go_simp
         refine (copySlip_any FA1 f1 fc1 BA1 b1 bc1 fs1 bs1 d01 d11 F1 B1 _ (by omega) (by omega) HF1.out HB1.out (hs4.bel hS).sf (hs4.bel hS).sb).mono ?_
         rintro er ys ⟨⟨FA2,fc2,BA2,bc2,rfl,hsl⟩,hqs⟩
         replace ho:=own_bel ho hqs
         have hof:=ownsRow_up (b':=0) hsl.of (fun q e => Nat.zero_le _)
         have hob:=ownsRow_up (b':=0) hsl.ob (fun q e => Nat.zero_le _)
         clear hsl
         replace k10:=k10.call hqs
         replace k11:=k11.call hqs
         have hSn:=hS.trans (hqs.mono hS.size)
         clear hS
         refine Onward.on hSn (fun hS => ?_)
         try dsimp only at hS
         clear hSn
         try simp only [Act.put,Sp1,Sp2,Sp3,Sp4,Sp5,Sp6]
         refine AnyG.castL (L':=#[true,true,true,true,true,true,true,true,true,true,true,true,false,false]) (by as_aux_lemma => kernel_rfl) ?_
         exact tail ys b18 b19 A2 c2 FA2 fc2 BA2 bc2 ⟨hS,ho,hof,hob,k10,k11,hb18,hb19,hne⟩
       ·refine ⟨_,rfl,rfl,?_⟩
        go_simp
        replace ho:=ho.alloc (.cells #[.slice none 0 0,.slice none 0 0,.int .i64 0,.int .i64 0,.int .i64 0,.int .i64 0] 50)
        have k11:=Bx.new yl 50 #[.slice none 0 0,.slice none 0 0,.int .i64 0,.int .i64 0,.int .i64 0,.int .i64 0]
        have hb19 : w4.heap.size ≤ yl.heap.size:=hS.size
        have hT:=hS.alloc hS.size (.cells #[.slice none 0 0,.slice none 0 0,.int .i64 0,.int .i64 0,.int .i64 0,.int .i64 0] 50)
        obtain ⟨yb,hy⟩ : ∃ x,yl.alloc (.cells #[.slice none 0 0,.slice none 0 0,.int .i64 0,.int .i64 0,.int .i64 0,.int .i64 0] 50) = x:=⟨_,rfl⟩
        rw [hy] at ho k11 hT ⊢
        obtain ⟨b19,hb_⟩ : ∃ p,yl.heap.size = p:=⟨_,rfl⟩
        rw [hb_] at k11 hb19 ⊢
        clear hy hb_
        have hSn:=hT
        clear hS
        refine Onward.on hSn (fun hS => ?_)
        try dsimp only at hS
        clear hSn
        try simp only [Act.put,Sp1,Sp2,Sp3,Sp4,Sp5,Sp6]
        refine AnyG.all (rs:=[9,10]) (by as_aux_lemma => kernel_rfl) (by simp) ?_
        intro ii hii
        simp only [List.mem_cons,List.not_mem_nil,or_false] at hii
        rcases hii with rfl | rfl
        ·refine ⟨_,rfl,rfl,?_⟩
         go_simp
         refine (copySlip_any FA1 f1 fc1 BA1 b1 bc1 fs1 bs1 d01 d11 F1 B1 _ (by omega) (by omega) HF1.out HB1.out (hs4.bel hS).sf (hs4.bel hS).sb).mono ?_
         rintro er ys ⟨⟨FA2,fc2,BA2,bc2,rfl,hsl⟩,hqs⟩
         replace ho:=own_bel ho hqs
         have hof:=ownsRow_up (b':=0) hsl.of (fun q e => Nat.zero_le _)
         have hob:=ownsRow_up (b':=0) hsl.ob (fun q e => Nat.zero_le _)
         clear hsl
         replace k11:=k11.call hqs
         have hSn:=hS.trans (hqs.mono hS.size)
         clear hS
         refine Onward.on hSn (fun hS => ?_)
         try dsimp only at hS
         clear hSn
         try simp only [Act.put,Sp1,Sp2,Sp3,Sp4,Sp5,Sp6]
         refine AnyG.one (i:=10) (by as_aux_lemma => kernel_rfl) rfl rfl ?_
         go_simp
         have hne:=k11.lt
         replace ho:=ho.alloc (.cells #[.int .i64 0,.int .i64 0,.int .i64 0,.slice none 0 0] 26)
         replace hof:=hof.alloc (.cells #[.int .i64 0,.int .i64 0,.int .i64 0,.slice none 0 0] 26)
         replace hob:=hob.alloc (.cells #[.int .i64 0,.int .i64 0,.int .i64 0,.slice none 0 0] 26)
         replace k11:=k11.alloc (.cells #[.int .i64 0,.int .i64 0,.int .i64 0,.slice none 0 0] 26)
         have k10:=Bx.new ys 26 #[.int .i64 0,.int .i64 0,.int .i64 0,.slice none 0 0]
         have hb18 : w4.heap.size ≤ ys.heap.size:=hS.size
         have hT:=hS.alloc hS.size (.cells #[.int .i64 0,.int .i64 0,.int .i64 0,.slice none 0 0] 26)
         obtain ⟨ya,hy⟩ : ∃ x,ys.alloc (.cells #[.int .i64 0,.int .i64 0,.int .i64 0,.slice none 0 0] 26) = x:=⟨_,rfl⟩
         rw [hy] at ho hof hob k11 k10 hT ⊢
         obtain ⟨b18,hb_⟩ : ∃ p,ys.heap.size = p:=⟨_,rfl⟩
         rw [hb_] at k10 hb18 hne ⊢
         clear hy hb_
         replace hne : b18 ≠ b19:=by omega
         have hSn:=hT
         clear hS
         refine Onward.on hSn (fun hS => ?_)
         try dsimp only at hS
         clear hSn
         try simp only [Act.put,Sp1,Sp2,Sp3,Sp4,Sp5,Sp6]
         refine AnyG.castL (L':=#[true,true,true,true,true,true,true,true,true,true,true,true,false,false]) (by as_aux_lemma => kernel_rfl) ?_
         exact tail ya b18 b19 A2 c2 FA2 fc2 BA2 bc2 ⟨hS,ho,hof,hob,k10,k11,hb18,hb19,hne⟩
        ·refine ⟨_,rfl,rfl,?_⟩
         go_simp
         have hne:=k11.lt
         replace ho:=ho.alloc (.cells #[.int .i64 0,.int .i64 0,.int .i64 0,.slice none 0 0] 26)
         replace k11:=k11.alloc (.cells #[.int .i64 0,.int .i64 0,.int .i64 0,.slice none 0 0] 26)
         have k10:=Bx.new yb 26 #[.int .i64 0,.int .i64 0,.int .i64 0,.slice none 0 0]
         have hb18 : w4.heap.size ≤ yb.heap.size:=hS.size
         have hT:=hS.alloc hS.size (.cells #[.int .i64 0,.int .i64 0,.int .i64 0,.slice none 0 0] 26)
         obtain ⟨ya,hy⟩ : ∃ x,yb.alloc (.cells #[.int .i64 0,.int .i64 0,.int .i64 0,.slice none 0 0] 26) = x:=⟨_,rfl⟩
         rw [hy] at ho k11 k10 hT ⊢
         obtain ⟨b18,hb_⟩ : ∃ p,yb.heap.size = p:=⟨_,rfl⟩
         rw [hb_] at k10 hb18 hne ⊢
         clear hy hb_
         replace hne : b18 ≠ b19:=by omega
         have hSn:=hT
         clear hS
         refine Onward.on hSn (fun hS => ?_)
         try dsimp only at hS
         clear hSn
         try simp only [Act.put,Sp1,Sp2,Sp3,Sp4,Sp5,Sp6]
         refine AnyG.one (i:=9) (by as_aux_lemma => kernel_rfl) rfl rfl ?_
         go_simp
         refine (copySlip_any FA1 f1 fc1 BA1 b1 bc1 fs1 bs1 d01 d11 F1 B1 _ (by omega) (by omega) HF1.out HB1.out (hs4.bel hS).sf (hs4.bel hS).sb).mono ?_
         rintro er ys ⟨⟨FA2,fc2,BA2,bc2,rfl,hsl⟩,hqs⟩
         replace ho:=own_bel ho hqs
         have hof:=ownsRow_up (b':=0) hsl.of (fun q e => Nat.zero_le _)
         have hob:=ownsRow_up (b':=0) hsl.ob (fun q e => Nat.zero_le _)
         clear hsl
         replace k10:=k10.call hqs
         replace k11:=k11.call hqs
         have hSn:=hS.trans (hqs.mono hS.size)
         clear hS
         refine Onward.on hSn (fun hS => ?_)
         try dsimp only at hS
         clear hSn
         try simp only [Act.put,Sp1,Sp2,Sp3,Sp4,Sp5,Sp6]
         refine AnyG.castL (L':=#[true,true,true,true,true,true,true,true,true,true,true,true,false,false]) (by as_aux_lemma => kernel_rfl) ?_
         exact tail ys b18 b19 A2 c2 FA2 fc2 BA2 bc2 ⟨hS,ho,hof,hob,k10,k11,hb18,hb19,hne⟩
      ·refine ⟨_,rfl,rfl,?_⟩
       go_simp
       have k10:=Bx.new y0 26 #[.int .i64 0,.int .i64 0,.int .i64 0,.slice none 0 0]
       have hb18 : w4.heap.size ≤ y0.heap.size:=hS.size
       have hT:=hS.alloc hS.size (.cells #[.int .i64 0,.int .i64 0,.int .i64 0,.slice none 0 0] 26)
       obtain ⟨ya,hy⟩ : ∃ x,y0.alloc (.cells #[.int .i64 0,.int .i64 0,.int .i64 0,.slice none 0 0] 26) = x:=⟨_,rfl⟩
       rw [hy] at k10 hT ⊢
       obtain ⟨b18,hb_⟩ : ∃ p,y0.heap.size = p:=⟨_,rfl⟩
       rw [hb_] at k10 hb18 ⊢
       clear hy hb_
       have hSn:=hT
       clear hS
       refine Onward.on hSn (fun hS => ?_)
       try dsimp only at hS
       clear hSn
       try simp only [Act.put,Sp1,Sp2,Sp3,Sp4,Sp5,Sp6]
       refine AnyG.all (rs:=[4,11]) (by as_aux_lemma => kernel_rfl) (by simp) ?_
       intro ii hii
       simp only [List.mem_cons,List.not_mem_nil,or_false] at hii
       rcases hii with rfl | rfl
       ·refine ⟨_,rfl,rfl,?_⟩
        go_simp
        refine (copyLog_20 st1 za zb A1 n1 c1 es1 _ (by omega) HN1.out (hd4.bel hS).ev).mono ?_
        rintro er yl ⟨⟨A2,c2,rfl,ho⟩,hql⟩
        replace ho:=ownsRow_up (b':=0) ho (fun q e => Nat.zero_le _)
        replace k10:=k10.call hql
        have hSn:=hS.trans (hql.mono hS.size)
        clear hS
        refine Onward.on hSn (fun hS => ?_)
        try dsimp only at hS
        clear hSn
        try simp only [Act.put,Sp1,Sp2,Sp3,Sp4,Sp5,Sp6]
        refine AnyG.all (rs:=[9,11]) (by as_aux_lemma => kernel_rfl) (by simp) ?_
        intro ii hii
        simp only [List.mem_cons,List.not_mem_nil,or_false] at hii
        rcases hii with rfl | rfl
        ·refine ⟨_,rfl,rfl,?_⟩
         go_simp
         refine (copySlip_any FA1 f1 fc1 BA1 b1 bc1 fs1 bs1 d01 d11 F1 B1 _ (by omega) (by omega) HF1.out HB1.out (hs4.bel hS).sf (hs4.bel hS).sb).mono ?_
         rintro er ys ⟨⟨FA2,fc2,BA2,bc2,rfl,hsl⟩,hqs⟩
         replace ho:=own_bel ho hqs
         have hof:=ownsRow_up (b':=0) hsl.of (fun q e => Nat.zero_le _)
         have hob:=ownsRow_up (b':=0) hsl.ob (fun q e => Nat.zero_le _)
         clear hsl
         replace k10:=k10.call hqs
         have hSn:=hS.trans (hqs.mono hS.size)
         clear hS
         refine Onward.on hSn (fun hS => ?_)
         try dsimp only at hS
         clear hSn
         try simp only [Act.put,Sp1,Sp2,Sp3,Sp4,Sp5,Sp6]
         refine AnyG.one (i:=11) (by as_aux_lemma => kernel_rfl) rfl rfl ?_
         go_simp
         have hne:=k10.lt
         replace ho:=ho.alloc (.cells #[.slice none 0 0,.slice none 0 0,.int .i64 0,.int .i64 0,.int .i64 0,.int .i64 0] 50)
         replace hof:=hof.alloc (.cells #[.slice none 0 0,.slice none 0 0,.int .i64 0,.int .i64 0,.int .i64 0,.int .i64 0] 50)
         replace hob:=hob.alloc (.cells #[.slice none 0 0,.slice none 0 0,.int .i64 0,.int .i64 0,.int .i64 0,.int .i64 0] 50)
         replace k10:=k10.alloc (.cells #[.slice none 0 0,.slice none 0 0,.int .i64 0,.int .i64 0,.int .i64 0,.int .i64 0] 50)
         have k11:=Bx.new ys 50 #[.slice none 0 0,.slice none 0 0,.int .i64 0,.int .i64 0,.int .i64 0,.int .i64 0]
         have hb19 : w4.heap.size ≤ ys.heap.size:=hS.size
         have hT:=hS.alloc hS.size (.cells #[.slice none 0 0,.slice none 0 0,.int .i64 0,.int .i64 0,.int .i64 0,.int .i64 0] 50)
         obtain ⟨yb,hy⟩ : ∃ x,ys.alloc (.cells #[.slice none 0 0,.slice none 0 0,.int .i64 0,.int .i64 0,.int .i64 0,.int .i64 0] 50) = x:=⟨_,rfl⟩
         rw [hy] at ho hof hob k10 k11 hT ⊢
         obtain ⟨b19,hb_⟩ : ∃ p,ys.heap.size = p:=⟨_,rfl⟩
         rw [hb_] at k11 hb19 hne ⊢
         clear hy hb_
         replace hne : b18 ≠ b19:=by omega
         have hSn:=hT
         clear hS
         refine Onward.on hSn (fun hS => ?_)
         try dsimp only at hS
         clear hSn
         try simp only [Act.put,Sp1,Sp2,Sp3,Sp4,Sp5,Sp6]
         refine AnyG.castL (L':=#[true,true,true,true,true,true,true,true,true,true,true,true,false,false]) (by as_aux_lemma => kernel_rfl) ?_
         exact tail yb b18 b19 A2 c2 FA2 fc2 BA2 bc2 ⟨hS,ho,hof,hob,k10,k11,hb18,hb19,hne⟩
        ·refine ⟨_,rfl,rfl,?_⟩
         go_simp
         have hne:=k10.lt
         replace ho:=ho.alloc (.cells #[.slice none 0 0,.slice none 0 0,.int .i64 0,.int .i64 0,.int .i64 0,.int .i64 0] 50)
         replace k10:=k10.alloc (.cells #[.slice none 0 0,.slice none 0 0,.int .i64 0,.int .i64 0,.int .i64 0,.int .i64 0] 50)
         have k11:=Bx.new yl 50 #[.slice none 0 0,.slice none 0 0,.int .i64 0,.int .i64 0,.int .i64 0,.int .i64 0]
         have hb19 : w4.heap.size ≤ yl.heap.size:=hS.size
         have hT:=hS.alloc hS.size (.cells #[.slice none 0 0,.slice none 0 0,.int .i64 0,.int .i64 0,.int .i64 0,.int .i64 0] 50)
         obtain ⟨yb,hy⟩ : ∃ x,yl.alloc (.cells #[.slice none 0 0,.slice none 0 0,.int .i64 0,.int .i64 0,.int .i64 0,.int .i64 0] 50) = x:=⟨_,rfl⟩
         rw [hy] at ho k10 k11 hT ⊢
         obtain ⟨b19,hb_⟩ : ∃ p,yl.heap.size = p:=⟨_,rfl⟩
         rw [hb_] at k11 hb19 hne ⊢
         clear hy hb_
         replace hne : b18 ≠ b19:=by omega
         have hSn:=hT
         clear hS
         refine Onward.on hSn (fun hS => ?_)
         try dsimp only at hS
         clear hSn
         try simp only [Act.put,Sp1,Sp2,Sp3,Sp4,Sp5,Sp6]
         refine AnyG.one (i:=9) (by as_aux_lemma => kernel_rfl) rfl rfl ?_
         go_simp
         refine (copySlip_any FA1 f1 fc1 BA1 b1 bc1 fs1 bs1 d01 d11 F1 B1 _ (by omega) (by omega) HF1.out HB1.out (hs4.bel hS).sf (hs4.bel hS).sb).mono ?_
         rintro er ys ⟨⟨FA2,fc2,BA2,bc2,rfl,hsl⟩,hqs⟩
         replace ho:=own_bel ho hqs
         have hof:=ownsRow_up (b':=0) hsl.of (fun q e => Nat.zero_le _)
         have hob:=ownsRow_up (b':=0) hsl.ob (fun q e => Nat.zero_le _)
         clear hsl
         replace k10:=k10.call hqs
         replace k11:=k11.call hqs
         have hSn:=hS.trans (hqs.mono hS.size)
         clear hS
         refine Onward.on hSn (fun hS => ?_)
         try dsimp only at hS
         clear hSn
         try simp only [Act.put,Sp1,Sp2,Sp3,Sp4,Sp5,Sp6]
         refine AnyG.castL (L':=#[true,true,true,true,true,true,true,true,true,true,true,true,false,false]) (by as_aux_lemma => kernel_rfl) ?_
         exact tail ys b18 b19 A2 c2 FA2 fc2 BA2 bc2 ⟨hS,ho,hof,hob,k10,k11,hb18,hb19,hne⟩
       ·refine ⟨_,rfl,rfl,?_⟩
        go_simp
        have hne:=k10.lt
        replace k10:=k10.alloc (.cells #[.slice none 0 0,.slice none 0 0,.int .i64 0,.int .i64 0,.int .i64 0,.int .i64 0] 50)
        have k11:=Bx.new ya 50 #[.slice none 0 0,.slice none 0 0,.int .i64 0,.int .i64 0,.int .i64 0,.int .i64 0]
        have hb19 : w4.heap.size ≤ ya.heap.size:=hS.size
        have hT:=hS.alloc hS.size (.cells #[.slice none 0 0,.slice none 0 0,.int .i64 0,.int .i64 0,.int .i64 0,.int .i64 0] 50)
        obtain ⟨yb,hy⟩ : ∃ x,ya.alloc (.cells #[.slice none 0 0,.slice none 0 0,.int .i64 0,.int .i64 0,.int .i64 0,.int .i64 0] 50) = x:=⟨_,rfl⟩
        rw [hy] at k10 k11 hT ⊢
        obtain ⟨b19,hb_⟩ : ∃ p,ya.heap.size = p:=⟨_,rfl⟩
        rw [hb_] at k11 hb19 hne ⊢
        clear hy hb_
        replace hne : b18 ≠ b19:=by omega
        have hSn:=hT
        clear hS
        refine Onward.on hSn (fun hS => ?_)
        try dsimp only at hS
        clear hSn
        try simp only [Act.put,Sp1,Sp2,Sp3,Sp4,Sp5,Sp6]
        refine AnyG.one (i:=4) (by as_aux_lemma => kernel_rfl) rfl rfl ?_
        go_simp
        refine (copyLog_20 st1 za zb A1 n1 c1 es1 _ (by omega) HN1.out (hd4.bel hS).ev).mono ?_
        rintro er yl ⟨⟨A2,c2,rfl,ho⟩,hql⟩
        replace ho:=ownsRow_up (b':=0) ho (fun q e => Nat.zero_le _)
        replace k10:=k10.call hql
        replace k11:=k11.call hql
        have hSn:=hS.trans (hql.mono hS.size)
        clear hS
        refine Onward.on hSn (fun hS => ?_)
        try dsimp only at hS
        clear hSn
        try simp only [Act.put,Sp1,Sp2,Sp3,Sp4,Sp5,Sp6]
        refine AnyG.one (i:=9) (by as_aux_lemma => kernel_rfl) rfl rfl ?_
        go_simp
        refine (copySlip_any FA1 f1 fc1 BA1 b1 bc1 fs1 bs1 d01 d11 F1 B1 _ (by omega) (by omega) HF1.out HB1.out (hs4.bel hS).sf (hs4.bel hS).sb).mono ?_
        rintro er ys ⟨⟨FA2,fc2,BA2,bc2,rfl,hsl⟩,hqs⟩
        replace ho:=own_bel ho hqs
        have hof:=ownsRow_up (b':=0) hsl.of (fun q e => Nat.zero_le _)
        have hob:=ownsRow_up (b':=0) hsl.ob (fun q e => Nat.zero_le _)
        clear hsl
        replace k10:=k10.call hqs
        replace k11:=k11.call hqs
        have hSn:=hS.trans (hqs.mono hS.size)
        clear hS
        refine Onward.on hSn (fun hS => ?_)
        try dsimp only at hS
        clear hSn
        try simp only [Act.put,Sp1,Sp2,Sp3,Sp4,Sp5,Sp6]
        refine AnyG.castL (L':=#[true,true,true,true,true,true,true,true,true,true,true,true,false,false]) (by as_aux_lemma => kernel_rfl) ?_
        exact tail ys b18 b19 A2 c2 FA2 fc2 BA2 bc2 ⟨hS,ho,hof,hob,k10,k11,hb18,hb19,hne⟩
      ·refine ⟨_,rfl,rfl,?_⟩
       go_simp
       have k11:=Bx.new y0 50 #[.slice none 0 0,.slice none 0 0,.int .i64 0,.int .i64 0,.int .i64 0,.int .i64 0]
       have hb19 : w4.heap.size ≤ y0.heap.size:=hS.size
       have hT:=hS.alloc hS.size (.cells #[.slice none 0 0,.slice none 0 0,.int .i64 0,.int .i64 0,.int .i64 0,.int .i64 0] 50)
       obtain ⟨yb,hy⟩ : ∃ x,y0.alloc (.cells #[.slice none 0 0,.slice none 0 0,.int .i64 0,.int .i64 0,.int .i64 0,.int .i64 0] 50) = x:=⟨_,rfl⟩
       rw [hy] at k11 hT ⊢
       obtain ⟨b19,hb_⟩ : ∃ p,y0.heap.size = p:=⟨_,rfl⟩
       rw [hb_] at k11 hb19 ⊢
       clear hy hb_
       have hSn:=hT
       clear hS
       refine Onward.on hSn (fun hS => ?_)
       try dsimp only at hS
       clear hSn
       try simp only [Act.put,Sp1,Sp2,Sp3,Sp4,Sp5,Sp6]
       refine AnyG.all (rs:=[4,10]) (by as_aux_lemma => kernel_rfl) (by simp) ?_
       intro ii hii
       simp only [List.mem_cons,List.not_mem_nil,or_false] at hii
       rcases hii with rfl | rfl
       ·refine ⟨_,rfl,rfl,?_⟩
        go_simp
        refine (copyLog_20 st1 za zb A1 n1 c1 es1 _ (by omega) HN1.out (hd4.bel hS).ev).mono ?_
        rintro er yl ⟨⟨A2,c2,rfl,ho⟩,hql⟩
        replace ho:=ownsRow_up (b':=0) ho (fun q e => Nat.zero_le _)
        replace k11:=k11.call hql
        have hSn:=hS.trans (hql.mono hS.size)
        clear hS
        refine Onward.on hSn (fun hS => ?_)
        try dsimp only at hS
        clear hSn
        try simp only [Act.put,Sp1,Sp2,Sp3,Sp4,Sp5,Sp6]
        refine AnyG.all (rs:=[9,10]) (by as_aux_lemma => kernel_rfl) (by simp) ?_
        intro ii hii
        simp only [List.mem_cons,List.not_mem_nil,or_false] at hii
        rcases hii with rfl | rfl
        ·refine ⟨_,rfl,rfl,?_⟩
         go_simp
         refine (copySlip_any FA1 f1 fc1 BA1 b1 bc1 fs1 bs1 d01 d11 F1 B1 _ (by omega) (by omega) HF1.out HB1.out (hs4.bel hS).sf (hs4.bel hS).sb).mono ?_
         rintro er ys ⟨⟨FA2,fc2,BA2,bc2,rfl,hsl⟩,hqs⟩
         replace ho:=own_bel ho hqs
         have hof:=ownsRow_up (b':=0) hsl.of (fun q e => Nat.zero_le _)
         have hob:=ownsRow_up (b':=0) hsl.ob (fun q e => Nat.zero_le _)
         clear hsl
         replace k11:=k11.call hqs
         have hSn:=hS.trans (hqs.mono hS.size)
         clear hS
         refine Onward.on hSn (fun hS => ?_)
         try dsimp only at hS
         clear hSn
         try simp only [Act.put,Sp1,Sp2,Sp3,Sp4,Sp5,Sp6]
         refine AnyG.one (i:=10) (by as_aux_lemma => kernel_rfl) rfl rfl ?_
         go_simp
         have hne:=k11.lt
         replace ho:=ho.alloc (.cells #[.int .i64 0,.int .i64 0,.int .i64 0,.slice none 0 0] 26)
         replace hof:=hof.alloc (.cells #[.int .i64 0,.int .i64 0,.int .i64 0,.slice none 0 0] 26)
         replace hob:=hob.alloc (.cells #[.int .i64 0,.int .i64 0,.int .i64 0,.slice none 0 0] 26)
         replace k11:=k11.alloc (.cells #[.int .i64 0,.int .i64 0,.int .i64 0,.slice none 0 0] 26)
         have k10:=Bx.new ys 26 #[.int .i64 0,.int .i64 0,.int .i64 0,.slice none 0 0]
         have hb18 : w4.heap.size ≤ ys.heap.size:=hS.size
         have hT:=hS.alloc hS.size (.cells #[.int .i64 0,.int .i64 0,.int .i64 0,.slice none 0 0] 26)
         obtain ⟨ya,hy⟩ : ∃ x,ys.alloc (.cells #[.int .i64 0,.int .i64 0,.int .i64 0,.slice none 0 0] 26) = x:=⟨_,rfl⟩
         rw [hy] at ho hof hob k11 k10 hT ⊢
         obtain ⟨b18,hb_⟩ : ∃ p,ys.heap.size = p:=⟨_,rfl⟩
         rw [hb_] at k10 hb18 hne ⊢
         clear hy hb_
         replace hne : b18 ≠ b19:=by omega
         have hSn:=hT
         clear hS
         refine Onward.on hSn (fun hS => ?_)
         try dsimp only at hS
         clear hSn
         try simp only [Act.put,Sp1,Sp2,Sp3,Sp4,Sp5,Sp6]
         refine AnyG.castL (L':=#[true,true,true,true,true,true,true,true,true,true,true,true,false,false]) (by as_aux_lemma => kernel_rfl) ?_
         exact tail ya b18 b19 A2 c2 FA2 fc2 BA2 bc2 ⟨hS,ho,hof,hob,k10,k11,hb18,hb19,hne⟩
        ·refine ⟨_,rfl,rfl,?_⟩
         go_simp
         have hne:=k11.lt
         replace ho:=ho.alloc (.cells #[.int .i64 0,.int .i64 0,.int .i64 0,.slice none 0 0] 26)
         replace k11:=k11.alloc (.cells #[.int .i64 0,.int .i64 0,.int .i64 0,.slice none 0 0] 26)
         have k10:=Bx.new yl 26 #[.int .i64 0,.int .i64 0,.int .i64 0,.slice none 0 0]
         have hb18 : w4.heap.size ≤ yl.heap.size:=hS.size
         have hT:=hS.alloc hS.size (.cells #[.int .i64 0,.int .i64 0,.int .i64 0,.slice none 0 0] 26)
         obtain ⟨ya,hy⟩ : ∃ x,yl.alloc (.cells #[.int .i64 0,.int .i64 0,.int .i64 0,.slice none 0 0] 26) = x:=⟨_,rfl⟩
         rw [hy] at ho k11 k10 hT ⊢
         obtain ⟨b18,hb_⟩ : ∃ p,yl.heap.size = p:=⟨_,rfl⟩
         rw [hb_] at k10 hb18 hne ⊢
         clear hy hb_
         replace hne : b18 ≠ b19:=by omega
         have hSn:=hT
         clear hS
         refine Onward.on hSn (fun hS => ?_)
         try dsimp only at hS
         clear hSn
         try simp only [Act.put,Sp1,Sp2,Sp3,Sp4,Sp5,Sp6]
         refine AnyG.one (i:=9) (by as_aux_lemma => kernel_rfl) rfl rfl ?_
         go_simp
         refine (copySlip_any FA1 f1 fc1 BA1 b1 bc1 fs1 bs1 d01 d11 F1 B1 _ (by omega) (by omega) HF1.out HB1.out (hs4.bel hS).sf (hs4.bel hS).sb).mono ?_
         rintro er ys ⟨⟨FA2,fc2,BA2,bc2,rfl,hsl⟩,hqs⟩
         replace ho:=own_bel ho hqs
         have hof:=ownsRow_up (b':=0) hsl.of (fun q e => Nat.zero_le _)
         have hob:=ownsRow_up (b':=0) hsl.ob (fun q e => Nat.zero_le _)
         clear hsl
         replace k10:=k10.call hqs
         replace k11:=k11.call hqs
         have hSn:=hS.trans (hqs.mono hS.size)
         clear hS
         refine Onward.on hSn (fun hS => ?_)
         try dsimp only at hS
         clear hSn
         try simp only [Act.put,Sp1,Sp2,Sp3,Sp4,Sp5,Sp6]
         refine AnyG.castL (L':=#[true,true,true,true,true,true,true,true,true,true,true,true,false,false]) (by as_aux_lemma => kernel_rfl) ?_
         exact tail ys b18 b19 A2 c2 FA2 fc2 BA2 bc2 ⟨hS,ho,hof,hob,k10,k11,hb18,hb19,hne⟩
       ·refine ⟨_,rfl,rfl,?_⟩
        go_simp
        have hne:=k11.lt
        replace k11:=k11.alloc (.cells #[.int .i64 0,.int .i64 0,.int .i64 0,.slice none 0 0] 26)
        have k10:=Bx.new yb 26 #[.int .i64 0,.int .i64 0,.int .i64 0,.slice none 0 0]
        have hb18 : w4.heap.size ≤ yb.heap.size:=hS.size
        have hT:=hS.alloc hS.size (.cells #[.int .i64 0,.int .i64 0,.int .i64 0,.slice none 0 0] 26)
        obtain ⟨ya,hy⟩ : ∃ x,yb.alloc (.cells #[.int .i64 0,.int .i64 0,.int .i64 0,.slice none 0 0] 26) = x:=⟨_,rfl⟩
        rw [hy] at k11 k10 hT ⊢
        obtain ⟨b18,hb_⟩ : ∃ p,yb.heap.size = p:=⟨_,rfl⟩
        rw [hb_] at k10 hb18 hne ⊢
        clear hy hb_
        replace hne : b18 ≠ b19:=by omega
        have hSn:=hT
        clear hS
        refine Onward.on hSn (fun hS => ?_)
        try dsimp only at hS
        clear hSn
        try simp only [Act.put,Sp1,Sp2,Sp3,Sp4,Sp5,Sp6]
        refine AnyG.one (i:=4) (by as_aux_lemma => kernel_rfl) rfl rfl ?_
        go_simp
        refine (copyLog_20 st1 za zb A1 n1 c1 es1 _ (by omega) HN1.out (hd4.bel hS).ev).mono ?_
        rintro er yl ⟨⟨A2,c2,rfl,ho⟩,hql⟩
        replace ho:=ownsRow_up (b':=0) ho (fun q e => Nat.zero_le _)
        replace k10:=k10.call hql
        replace k11:=k11.call hql
        have hSn:=hS.trans (hql.mono hS.size)
        clear hS
        refine Onward.on hSn (fun hS => ?_)
        try dsimp only at hS
        clear hSn
        try simp only [Act.put,Sp1,Sp2,Sp3,Sp4,Sp5,Sp6]
        refine AnyG.one (i:=9) (by as_aux_lemma => kernel_rfl) rfl rfl ?_
        go_simp
        refine (copySlip_any FA1 f1 fc1 BA1 b1 bc1 fs1 bs1 d01 d11 F1 B1 _ (by omega) (by omega) HF1.out HB1.out (hs4.bel hS).sf (hs4.bel hS).sb).mono ?_
        rintro er ys ⟨⟨FA2,fc2,BA2,bc2,rfl,hsl⟩,hqs⟩
        replace ho:=own_bel ho hqs
        have hof:=ownsRow_up (b':=0) hsl.of (fun q e => Nat.zero_le _)
        have hob:=ownsRow_up (b':=0) hsl.ob (fun q e => Nat.zero_le _)
        clear hsl
        replace k10:=k10.call hqs
        replace k11:=k11.call hqs
        have hSn:=hS.trans (hqs.mono hS.size)
        clear hS
        refine Onward.on hSn (fun hS => ?_)
        try dsimp only at hS
        clear hSn
        try simp only [Act.put,Sp1,Sp2,Sp3,Sp4,Sp5,Sp6]
        refine AnyG.castL (L':=#[true,true,true,true,true,true,true,true,true,true,true,true,false,false]) (by as_aux_lemma => kernel_rfl) ?_
        exact tail ys b18 b19 A2 c2 FA2 fc2 BA2 bc2 ⟨hS,ho,hof,hob,k10,k11,hb18,hb19,hne⟩
     case tail =>
      rintro y b18 b19 A2 c2 FA2 fc2 BA2 bc2 ⟨hS,ho,hof,hob,k10,k11,hb18,hb19,hne⟩
      refine AnyG.one (i:=12) (by as_aux_lemma => kernel_rfl) rfl rfl ?_
      obtain ⟨r0,r1,r2,r3,rf,rz⟩:=k10.four
      go_simp
      clear r0 r1 r2 r3 rf rz
      have nl:=own_bx ho k10 (by decide)
      have nf:=own_bx hof k10 (by decide)
      have nb:=own_bx hob k10 (by decide)
      have hT : Below w4.heap.size w4 (World.setCell (World.setCell (World.setCell (World.setCell y ⟨b18,0,none⟩ (.int .i64 st1)) ⟨b18,1,none⟩ (.int .i64 za)) ⟨b18,2,none⟩ (.int .i64 zb)) ⟨b18,3,none⟩ (.slice A2 n1 c2)):=(Below.setCell (p:=⟨b18,3,none⟩) (Below.setCell (p:=⟨b18,2,none⟩) (Below.setCell (p:=⟨b18,1,none⟩) (Below.setCell (p:=⟨b18,0,none⟩) hS hb18 (.int .i64 st1)) hb18 (.int .i64 za)) hb18 (.int .i64 zb)) hb18 (.slice A2 n1 c2))
      replace ho:=(own_set (own_set (own_set (own_set ho (o:=0) nl (.int .i64 st1)) (o:=1) nl (.int .i64 za)) (o:=2) nl (.int .i64 zb)) (o:=3) nl (.slice A2 n1 c2))
      replace hof:=(own_set (own_set (own_set (own_set hof (o:=0) nf (.int .i64 st1)) (o:=1) nf (.int .i64 za)) (o:=2) nf (.int .i64 zb)) (o:=3) nf (.slice A2 n1 c2))
      replace hob:=(own_set (own_set (own_set (own_set hob (o:=0) nb (.int .i64 st1)) (o:=1) nb (.int .i64 za)) (o:=2) nb (.int .i64 zb)) (o:=3) nb (.slice A2 n1 c2))
      have kn : Bx (World.setCell (World.setCell (World.setCell (World.setCell y ⟨b18,0,none⟩ (.int .i64 st1)) ⟨b18,1,none⟩ (.int .i64 za)) ⟨b18,2,none⟩ (.int .i64 zb)) ⟨b18,3,none⟩ (.slice A2 n1 c2)) b18 26 #[.int .i64 st1,.int .i64 za,.int .i64 zb,.slice A2 n1 c2]:=by have:=((((k10.set_ 0 (.int .i64 st1)).set_ 1 (.int .i64 za)).set_ 2 (.int .i64 zb)).set_ 3 (.slice A2 n1 c2)); simpa using this
      have ko:=((((k11.far (p:=⟨b18,0,none⟩) (Ne.symm hne) (.int .i64 st1)).far (p:=⟨b18,1,none⟩) (Ne.symm hne) (.int .i64 za)).far (p:=⟨b18,2,none⟩) (Ne.symm hne) (.int .i64 zb)).far (p:=⟨b18,3,none⟩) (Ne.symm hne) (.slice A2 n1 c2))
      obtain ⟨yc,hy⟩ : ∃ x,(World.setCell (World.setCell (World.setCell (World.setCell y ⟨b18,0,none⟩ (.int .i64 st1)) ⟨b18,1,none⟩ (.int .i64 za)) ⟨b18,2,none⟩ (.int .i64 zb)) ⟨b18,3,none⟩ (.slice A2 n1 c2)) = x:=⟨_,rfl⟩
      rw [hy] at hT ho hof hob kn ko ⊢
      clear hy nl nf nb k10 k11 hS
      have k10:=kn
      have k11:=ko
      have hS:=hT
      clear kn ko hT
      refine Onward.last rfl ?_
      try simp only [Act.put,Sp1,Sp2,Sp3,Sp4,Sp5,Sp6]
      refine AnyG.one (i:=13) (by as_aux_lemma => kernel_rfl) rfl rfl ?_
      obtain ⟨q0,q1,q2,q3,q4,q5,qf,qz⟩:=k11.six
      go_simp
      clear q0 q1 q2 q3 q4 q5 qf qz
      have nl:=own_bx ho k11 (by decide)
      have nf:=own_bx hof k11 (by decide)
      have nb:=own_bx hob k11 (by decide)
      have hT : Below w4.heap.size w4 (World.setCell (World.setCell (World.setCell (World.setCell (World.setCell (World.setCell yc ⟨b19,0,none⟩ (.slice FA2 f1 fc2)) ⟨b19,1,none⟩ (.slice BA2 b1 bc2)) ⟨b19,2,none⟩ (.int .i64 fs1)) ⟨b19,3,none⟩ (.int .i64 bs1)) ⟨b19,4,none⟩ (.int .i64 d01)) ⟨b19,5,none⟩ (.int .i64 d11)):=(Below.setCell (p:=⟨b19,5,none⟩) (Below.setCell (p:=⟨b19,4,none⟩) (Below.setCell (p:=⟨b19,3,none⟩) (Below.setCell (p:=⟨b19,2,none⟩) (Below.setCell (p:=⟨b19,1,none⟩) (Below.setCell (p:=⟨b19,0,none⟩) hS hb19 (.slice FA2 f1 fc2)) hb19 (.slice BA2 b1 bc2)) hb19 (.int .i64 fs1)) hb19 (.int .i64 bs1)) hb19 (.int .i64 d01)) hb19 (.int .i64 d11))
      replace ho:=(own_set (own_set (own_set (own_set (own_set (own_set ho (o:=0) nl (.slice FA2 f1 fc2)) (o:=1) nl (.slice BA2 b1 bc2)) (o:=2) nl (.int .i64 fs1)) (o:=3) nl (.int .i64 bs1)) (o:=4) nl (.int .i64 d01)) (o:=5) nl (.int .i64 d11))
      replace hof:=(own_set (own_set (own_set (own_set (own_set (own_set hof (o:=0) nf (.slice FA2 f1 fc2)) (o:=1) nf (.slice BA2 b1 bc2)) (o:=2) nf (.int .i64 fs1)) (o:=3) nf (.int .i64 bs1)) (o:=4) nf (.int .i64 d01)) (o:=5) nf (.int .i64 d11))
      replace hob:=(own_set (own_set (own_set (own_set (own_set (own_set hob (o:=0) nb (.slice FA2 f1 fc2)) (o:=1) nb (.slice BA2 b1 bc2)) (o:=2) nb (.int .i64 fs1)) (o:=3) nb (.int .i64 bs1)) (o:=4) nb (.int .i64 d01)) (o:=5) nb (.int .i64 d11))
      have kn : Bx (World.setCell (World.setCell (World.setCell (World.setCell (World.setCell (World.setCell yc ⟨b19,0,none⟩ (.slice FA2 f1 fc2)) ⟨b19,1,none⟩ (.slice BA2 b1 bc2)) ⟨b19,2,none⟩ (.int .i64 fs1)) ⟨b19,3,none⟩ (.int .i64 bs1)) ⟨b19,4,none⟩ (.int .i64 d01)) ⟨b19,5,none⟩ (.int .i64 d11)) b19 50 #[.slice FA2 f1 fc2,.slice BA2 b1 bc2,.int .i64 fs1,.int .i64 bs1,.int .i64 d01,.int .i64 d11]:=by have:=((((((k11.set_ 0 (.slice FA2 f1 fc2)).set_ 1 (.slice BA2 b1 bc2)).set_ 2 (.int .i64 fs1)).set_ 3 (.int .i64 bs1)).set_ 4 (.int .i64 d01)).set_ 5 (.int .i64 d11)); simpa using this
      have ko:=((((((k10.far (p:=⟨b19,0,none⟩) hne (.slice FA2 f1 fc2)).far (p:=⟨b19,1,none⟩) hne (.slice BA2 b1 bc2)).far (p:=⟨b19,2,none⟩) hne (.int .i64 fs1)).far (p:=⟨b19,3,none⟩) hne (.int .i64 bs1)).far (p:=⟨b19,4,none⟩) hne (.int .i64 d01)).far (p:=⟨b19,5,none⟩) hne (.int .i64 d11))
      obtain ⟨yd,hy⟩ : ∃ x,(World.setCell (World.setCell (World.setCell (World.setCell (World.setCell (World.setCell yc ⟨b19,0,none⟩ (.slice FA2 f1 fc2)) ⟨b19,1,none⟩ (.slice BA2 b1 bc2)) ⟨b19,2,none⟩ (.int .i64 fs1)) ⟨b19,3,none⟩ (.int .i64 bs1)) ⟨b19,4,none⟩ (.int .i64 d01)) ⟨b19,5,none⟩ (.int .i64 d11)) = x:=⟨_,rfl⟩
      rw [hy] at hT ho hof hob kn ko ⊢
      clear hy nl nf nb k11 k10 hS
      have k11:=kn
      have k10:=ko
      have hS:=hT
      clear kn ko hT
      refine Onward.last rfl ?_
      try simp only [Act.put,Sp1,Sp2,Sp3,Sp4,Sp5,Sp6]
      refine AnyG.done (by as_aux_lemma => kernel_rfl) ?_ _
      go_simp
      go_wp2_with fail
      go_meet
      exact ⟨b18,b19,A2,c2,FA2,fc2,BA2,bc2,rfl,rfl,k10,k11,own_evs2 ho HN1.out,own_sl2 hof HF1.out,own_sl2 hob HB1.out,hS⟩
    case rest =>
     obtain ⟨b18,b19,A2,c2,FA2,fc2,BA2,bc2,rfl,rfl,k18,k19,hE2,hF2,hB2,hq2⟩:=hcut
     obtain ⟨y2,rfl⟩ : ∃ x,x = wc:=⟨_,rfl⟩
     have Z : NB U bA bB i b18 b19 ⟨st1,za,zb,A1,c1,es1⟩ ⟨FA1,fc1,BA1,bc1,fs1,bs1,d01,d11,F1,B1⟩ A2 c2 FA2 fc2 BA2 bc2 y2:=⟨hd4.bel hq2,hs4.bel hq2,by dsimp only; rw [HN1.out]; exact k18,by dsimp only; rw [HF1.out,HB1.out]; exact k19,hE2,hF2,hB2,hB.trans (hq2.mono hB.size)⟩
     have hr:=hr4.bel hq2
     clear k18 k19 hE2 hF2 hB2 hq2 hr4 hd4 hs4 hB
     have k12:=Z.kB
     dsimp only at k12
     rw [HN1.out] at k12
     obtain ⟨p0,p1,p2,p3,pf,pz⟩:=k12.four
     have k13:=Z.kS
     dsimp only at k13
     rw [HF1.out,HB1.out] at k13
     obtain ⟨s0,s1,s2,s3,s4,s5,sf,sz⟩:=k13.six
     go_upto_region 12 with (first | (go_at_call 29; refine (net_x st1 za zb A2 n1 c2 es1 FA2 f1 fc2 BA2 b1 bc2 fs1 bs1 d01 d11 F1 B1 R1 R2 E _ (by omega) HN1.out Z.ev (by omega) (by omega) HF1.out HB1.out Z.sf Z.sb HNX.out).mono ?_; rintro e y3 ⟨rfl,hq3⟩) | fail)
     clear k12 p0 p1 p2 p3 pf pz k13 s0 s1 s2 s3 s4 s5 sf sz
     have hBx:=hq3.alloc hq3.size (.cells #[.int .i64 R1,.int .i64 R2] 23)
     replace Z:=Z.bel hBx
     replace hr:=hr.bel hBx
     have k20:=Bx.new y3 23 #[.int .i64 R1,.int .i64 R2]
     obtain ⟨y4,hy4⟩ : ∃ x,y3.alloc (.cells #[.int .i64 R1,.int .i64 R2] 23) = x:=⟨_,rfl⟩
     rw [hy4] at Z hr k20 ⊢
     obtain ⟨b20,hb20⟩ : ∃ p,y3.heap.size = p:=⟨_,rfl⟩
     rw [hb20] at k20 ⊢
     clear hy4 hb20
     clear hBx hq3
     go_cut [22,23] (fun va vb wx => ∃ b : Nat,va = .pointer (some ⟨b,0,none⟩) ∧ vb = .int .i64 E ∧ Bx wx b 23 #[.int .i64 R1,.int .i64 R2] ∧ Below y4.heap.size y4 wx)
     case first =>
      refine AnyG.startC (by as_aux_lemma => kernel_rfl) ?_
      refine AnyG.takeP (i:=0) (v:=?_) rfl (by as_aux_lemma => kernel_rfl) (fun _ _ _ h => h) rfl ?_ ?_
      rotate_left
      ·(intro w'; go_simp; try with_reducible rfl)
      try simp only [Act.put,Sp1,Sp2,Sp3,Sp4,Sp5,Sp6]
      refine AnyG.takeP (i:=1) (v:=?_) rfl (by as_aux_lemma => kernel_rfl) (fun _ _ _ h => h) rfl ?_ ?_
      rotate_left
      ·(intro w'; go_simp; try with_reducible rfl)
      try simp only [Act.put,Sp1,Sp2,Sp3,Sp4,Sp5,Sp6]
      refine AnyG.takeP (i:=2) (v:=?_) rfl (by as_aux_lemma => kernel_rfl) (fun _ _ _ h => h) rfl ?_ ?_
      rotate_left
      ·(intro w'; go_simp; try with_reducible rfl)
      try simp only [Act.put,Sp1,Sp2,Sp3,Sp4,Sp5,Sp6]
      refine AnyG.takeP (i:=4) (v:=?_) rfl (by as_aux_lemma => kernel_rfl) (fun _ _ _ h => h) rfl ?_ ?_
      rotate_left
      ·(intro w'; go_simp; try with_reducible rfl)
      try simp only [Act.put,Sp1,Sp2,Sp3,Sp4,Sp5,Sp6]
      refine AnyG.takeP (i:=5) (v:=?_) rfl (by as_aux_lemma => kernel_rfl) (fun _ _ _ h => h) rfl ?_ ?_
      rotate_left
      ·(intro w'; go_simp; try with_reducible rfl)
      try simp only [Act.put,Sp1,Sp2,Sp3,Sp4,Sp5,Sp6]
      refine AnyG.takeP (i:=6) (v:=?_) rfl (by as_aux_lemma => kernel_rfl) (fun _ _ _ h => h) rfl ?_ ?_
      rotate_left
      ·(intro w'; go_simp; try with_reducible rfl)
      try simp only [Act.put,Sp1,Sp2,Sp3,Sp4,Sp5,Sp6]
      refine AnyG.enter (fun w' : World => Below y4.heap.size y4 w') (fun i => true) ?_
      have hS : (fun w' : World => Below y4.heap.size y4 w') (y4.drew):=(Below.refl _ _).drew
      try dsimp only at hS
      obtain ⟨y0,hy0⟩ : ∃ y,y4.drew = y:=⟨_,rfl⟩
      rw [hy0] at hS ⊢
      clear hy0
      refine AnyG.takeC (i:=3) (v:=?_) rfl (by as_aux_lemma => kernel_rfl) (fun _ _ _ h => h) rfl ?_ hS ?_
      rotate_left
      ·(intro w' hSw; (try dsimp only at hSw); have Zl:=(Z.bel hSw).la; have r0:=Zl.c0; have r1:=Zl.c1; have r2:=Zl.c2; have r3:=Zl.c3; dsimp only at r0 r1 r2 r3; rw [HN1.out] at r3; go_simp; try with_reducible rfl)
      try simp only [Act.put,Sp1,Sp2,Sp3,Sp4,Sp5,Sp6]
      refine AnyG.takeC (i:=7) (v:=?_) rfl (by as_aux_lemma => kernel_rfl) (fun _ _ _ h => h) rfl ?_ hS ?_
      rotate_left
      ·(intro w' hSw; (try dsimp only at hSw); have Zs:=(Z.bel hSw).sa; have v0:=Zs.c0; have v1:=Zs.c1; have v2:=Zs.c2; have v3:=Zs.c3; have v4:=Zs.c4; have v5:=Zs.c5; dsimp only at v0 v1 v2 v3 v4 v5; rw [HF1.out] at v0; rw [HB1.out] at v1; go_simp; try with_reducible rfl)
      try simp only [Act.put,Sp1,Sp2,Sp3,Sp4,Sp5,Sp6]
      refine AnyG.all (rs:=[8,12]) (by as_aux_lemma => kernel_rfl) (by simp) ?_
      intro ii hii
      simp only [List.mem_cons,List.not_mem_nil,or_false] at hii
      rcases hii with rfl | rfl
      ·refine ⟨_,rfl,rfl,?_⟩
       go_simp
       refine (refNet_x st1 za zb A1 n1 c1 es1 FA1 f1 fc1 BA1 b1 bc1 fs1 bs1 d01 d11 F1 B1 R1 R2 E _ (by omega) HN1.out (Z.bel hS).la.ev (by omega) (by omega) HF1.out HB1.out (Z.bel hS).sa.sf (Z.bel hS).sa.sb HNX.out).mono ?_
       rintro er yk ⟨rfl,hqq⟩
       have hSn:=hS.trans (hqq.mono hS.size)
       clear hS
       refine Onward.on hSn (fun hS => ?_)
       try dsimp only at hS
       clear hSn
       try simp only [Act.put,Sp1,Sp2,Sp3,Sp4,Sp5,Sp6]
       refine AnyG.takeC (i:=9) (v:=?_) rfl (by as_aux_lemma => kernel_rfl) (fun _ _ _ h => h) rfl ?_ hS ?_
       rotate_left
       ·(intro w' hSw; (try dsimp only at hSw); go_simp; try with_reducible rfl)
       try simp only [Act.put,Sp1,Sp2,Sp3,Sp4,Sp5,Sp6]
       refine AnyG.takeC (i:=10) (v:=?_) rfl (by as_aux_lemma => kernel_rfl) (fun _ _ _ h => h) rfl ?_ hS ?_
       rotate_left
       ·(intro w' hSw; (try dsimp only at hSw); go_simp; try with_reducible rfl)
       try simp only [Act.put,Sp1,Sp2,Sp3,Sp4,Sp5,Sp6]
       refine AnyG.takeC (i:=11) (v:=?_) rfl (by as_aux_lemma => kernel_rfl) (fun _ _ _ h => h) rfl ?_ hS ?_
       rotate_left
       ·(intro w' hSw; (try dsimp only at hSw); go_simp; try with_reducible rfl)
       try simp only [Act.put,Sp1,Sp2,Sp3,Sp4,Sp5,Sp6]
       refine AnyG.one (i:=12) (by as_aux_lemma => kernel_rfl) rfl rfl ?_
       go_simp
       have k22:=Bx.new yk 23 #[.int .i64 0,.int .i64 0]
       have hbk22 : y4.heap.size ≤ yk.heap.size:=hS.size
       have hT:=hS.alloc hS.size (.cells #[.int .i64 0,.int .i64 0] 23)
       obtain ⟨ya,hya⟩ : ∃ x,yk.alloc (.cells #[.int .i64 0,.int .i64 0] 23) = x:=⟨_,rfl⟩
       rw [hya] at k22 hT ⊢
       obtain ⟨b22,hb22⟩ : ∃ p,yk.heap.size = p:=⟨_,rfl⟩
       rw [hb22] at k22 hbk22 ⊢
       clear hya hb22
       have hSn:=hT
       clear hS
       refine Onward.on hSn (fun hS => ?_)
       try dsimp only at hS
       clear hSn
       try simp only [Act.put,Sp1,Sp2,Sp3,Sp4,Sp5,Sp6]
       refine AnyG.one (i:=13) (by as_aux_lemma => kernel_rfl) rfl rfl ?_
       obtain ⟨m0,m1,mf,mz⟩:=k22.two
       go_simp
       have kn : Bx (World.setCell (World.setCell ya ⟨b22,0,none⟩ (.int .i64 R1)) ⟨b22,1,none⟩ (.int .i64 R2)) b22 23 #[.int .i64 R1,.int .i64 R2]:=by have:=(k22.set_ 0 (.int .i64 R1)).set_ 1 (.int .i64 R2); simpa using this
       clear m0 m1 mf mz
       have hSn:=(hS.setCell hbk22 (.int .i64 R1) (p:=⟨b22,0,none⟩)).setCell hbk22 (.int .i64 R2) (p:=⟨b22,1,none⟩)
       clear hS
       refine Onward.on hSn (fun hS => ?_)
       try dsimp only at hS
       clear hSn
       try simp only [Act.put,Sp1,Sp2,Sp3,Sp4,Sp5,Sp6]
       refine AnyG.one (i:=14) (by as_aux_lemma => kernel_rfl) rfl rfl ?_
       go_simp
       refine Onward.on hS (fun hS2 => ?_)
       clear hS2
       try simp only [Act.put,Sp1,Sp2,Sp3,Sp4,Sp5,Sp6]
       refine AnyG.done (by as_aux_lemma => kernel_rfl) ?_ _
       go_simp
       go_wp2_with fail
       go_meet
       exact ⟨b22,rfl,rfl,kn,hS⟩
      ·refine ⟨_,rfl,rfl,?_⟩
       go_simp
       have k22:=Bx.new y0 23 #[.int .i64 0,.int .i64 0]
       have hbk22 : y4.heap.size ≤ y0.heap.size:=hS.size
       have hT:=hS.alloc hS.size (.cells #[.int .i64 0,.int .i64 0] 23)
       obtain ⟨ya,hya⟩ : ∃ x,y0.alloc (.cells #[.int .i64 0,.int .i64 0] 23) = x:=⟨_,rfl⟩
       rw [hya] at k22 hT ⊢
       obtain ⟨b22,hb22⟩ : ∃ p,y0.heap.size = p:=⟨_,rfl⟩
       rw [hb22] at k22 hbk22 ⊢
       clear hya hb22
       have hSn:=hT
       clear hS
       refine Onward.on hSn (fun hS => ?_)
       try dsimp only at hS
       clear hSn
       try simp only [Act.put,Sp1,Sp2,Sp3,Sp4,Sp5,Sp6]
       refine AnyG.one (i:=8) (by as_aux_lemma => kernel_rfl) rfl rfl ?_
       go_simp
       refine (refNet_x st1 za zb A1 n1 c1 es1 FA1 f1 fc1 BA1 b1 bc1 fs1 bs1 d01 d11 F1 B1 R1 R2 E _ (by omega) HN1.out (Z.bel hS).la.ev (by omega) (by omega) HF1.out HB1.out (Z.bel hS).sa.sf (Z.bel hS).sa.sb HNX.out).mono ?_
       rintro er yk ⟨rfl,hqq⟩
       replace k22:=k22.call hqq
       have hSn:=hS.trans (hqq.mono hS.size)
       clear hS
       refine Onward.on hSn (fun hS => ?_)
       try dsimp only at hS
       clear hSn
       try simp only [Act.put,Sp1,Sp2,Sp3,Sp4,Sp5,Sp6]
       refine AnyG.takeC (i:=9) (v:=?_) rfl (by as_aux_lemma => kernel_rfl) (fun _ _ _ h => h) rfl ?_ hS ?_
       rotate_left
       ·(intro w' hSw; (try dsimp only at hSw); go_simp; try with_reducible rfl)
       try simp only [Act.put,Sp1,Sp2,Sp3,Sp4,Sp5,Sp6]
       refine AnyG.takeC (i:=10) (v:=?_) rfl (by as_aux_lemma => kernel_rfl) (fun _ _ _ h => h) rfl ?_ hS ?_
       rotate_left
       ·(intro w' hSw; (try dsimp only at hSw); go_simp; try with_reducible rfl)
       try simp only [Act.put,Sp1,Sp2,Sp3,Sp4,Sp5,Sp6]
       refine AnyG.takeC (i:=11) (v:=?_) rfl (by as_aux_lemma => kernel_rfl) (fun _ _ _ h => h) rfl ?_ hS ?_
       rotate_left
       ·(intro w' hSw; (try dsimp only at hSw); go_simp; try with_reducible rfl)
       try simp only [Act.put,Sp1,Sp2,Sp3,Sp4,Sp5,Sp6]
       refine AnyG.one (i:=13) (by as_aux_lemma => kernel_rfl) rfl rfl ?_
       obtain ⟨m0,m1,mf,mz⟩:=k22.two
       go_simp
       have kn : Bx (World.setCell (World.setCell yk ⟨b22,0,none⟩ (.int .i64 R1)) ⟨b22,1,none⟩ (.int .i64 R2)) b22 23 #[.int .i64 R1,.int .i64 R2]:=by have:=(k22.set_ 0 (.int .i64 R1)).set_ 1 (.int .i64 R2); simpa using this
       clear m0 m1 mf mz
       have hSn:=(hS.setCell hbk22 (.int .i64 R1) (p:=⟨b22,0,none⟩)).setCell hbk22 (.int .i64 R2) (p:=⟨b22,1,none⟩)
       clear hS
       refine Onward.on hSn (fun hS => ?_)
       try dsimp only at hS
       clear hSn
       try simp only [Act.put,Sp1,Sp2,Sp3,Sp4,Sp5,Sp6]
       refine AnyG.one (i:=14) (by as_aux_lemma => kernel_rfl) rfl rfl ?_
       go_simp
       refine Onward.on hS (fun hS2 => ?_)
       clear hS2
       try simp only [Act.put,Sp1,Sp2,Sp3,Sp4,Sp5,Sp6]
       refine AnyG.done (by as_aux_lemma => kernel_rfl) ?_ _
       go_simp
       go_wp2_with fail
       go_meet
       exact ⟨b22,rfl,rfl,kn,hS⟩
     case rest =>
      obtain ⟨b22,rfl,rfl,k22,hqq⟩:=hcut
      obtain ⟨y5,rfl⟩ : ∃ x,x = wc:=⟨_,rfl⟩
      replace Z:=Z.bel hqq
      replace hr:=hr.bel hqq
      replace k20:=k20.call hqq
      clear hqq
      go_upto_region 13 with fail
      go_cut [24,25] (fun va vb wx => ∃ b : Nat,va = .pointer (some ⟨b,0,none⟩) ∧ vb = .int .i64 PE ∧ Bx wx b 23 #[.int .i64 P1,.int .i64 P2] ∧ Below y5.heap.size y5 wx)
      case first =>
       refine AnyG.startC (by as_aux_lemma => kernel_rfl) ?_
       refine AnyG.takeP (i:=2) (v:=?_) rfl (by as_aux_lemma => kernel_rfl) (fun _ _ _ h => h) rfl ?_ ?_
       rotate_left
       ·(intro w'; go_simp; try with_reducible rfl)
       try simp only [Act.put,Sp1,Sp2,Sp3,Sp4,Sp5,Sp6]
       refine AnyG.takeP (i:=3) (v:=?_) rfl (by as_aux_lemma => kernel_rfl) (fun _ _ _ h => h) rfl ?_ ?_
       rotate_left
       ·(intro w'; go_simp; try with_reducible rfl)
       try simp only [Act.put,Sp1,Sp2,Sp3,Sp4,Sp5,Sp6]
       refine AnyG.takeP (i:=4) (v:=?_) rfl (by as_aux_lemma => kernel_rfl) (fun _ _ _ h => h) rfl ?_ ?_
       rotate_left
       ·(intro w'; go_simp; try with_reducible rfl)
       try simp only [Act.put,Sp1,Sp2,Sp3,Sp4,Sp5,Sp6]
       refine AnyG.enter (fun w' : World => Below y5.heap.size y5 w') (fun i => true) ?_
       have hS : (fun w' : World => Below y5.heap.size y5 w') (y5.drew):=(Below.refl _ _).drew
       try dsimp only at hS
       obtain ⟨y0,hy0⟩ : ∃ y,y5.drew = y:=⟨_,rfl⟩
       rw [hy0] at hS ⊢
       clear hy0
       refine AnyG.takeC (i:=0) (v:=?_) rfl (by as_aux_lemma => kernel_rfl) (fun _ _ _ h => h) rfl ?_ hS ?_
       rotate_left
       ·(intro w' hSw; (try dsimp only at hSw); have k12:=(Z.bel hSw).kB; dsimp only at k12; rw [HN1.out] at k12; obtain ⟨p0,p1,p2,p3,pf,pz⟩:=k12.four; go_simp; try with_reducible rfl)
       try simp only [Act.put,Sp1,Sp2,Sp3,Sp4,Sp5,Sp6]
       refine AnyG.takeC (i:=1) (v:=?_) rfl (by as_aux_lemma => kernel_rfl) (fun _ _ _ h => h) rfl ?_ hS ?_
       rotate_left
       ·(intro w' hSw; (try dsimp only at hSw); have k13:=(Z.bel hSw).kS; dsimp only at k13; rw [HF1.out,HB1.out] at k13; obtain ⟨s0,s1,s2,s3,s4,s5,sf,sz⟩:=k13.six; go_simp; try with_reducible rfl)
       try simp only [Act.put,Sp1,Sp2,Sp3,Sp4,Sp5,Sp6]
       refine AnyG.takeC (i:=5) (v:=?_) rfl (by as_aux_lemma => kernel_rfl) (fun _ _ _ h => h) rfl ?_ hS ?_
       rotate_left
       ·(intro w' hSw; (try dsimp only at hSw); have Zr:=hr.bel hSw; have g0:=Zr.c0; have g1:=Zr.c1; go_simp; try with_reducible rfl)
       try simp only [Act.put,Sp1,Sp2,Sp3,Sp4,Sp5,Sp6]
       refine AnyG.all (rs:=[6,10]) (by as_aux_lemma => kernel_rfl) (by simp) ?_
       intro ii hii
       simp only [List.mem_cons,List.not_mem_nil,or_false] at hii
       rcases hii with rfl | rfl
       ·refine ⟨_,rfl,rfl,?_⟩
        go_simp
        have hcc:=paid_x st1 za zb A2 n1 c2 es1 FA2 f1 fc2 BA2 b1 bc2 fs1 bs1 d01 d11 F1 B1 qa qb R1 R2 E y0 (by omega) HN1.out (Z.bel hS).ev (by omega) (by omega) HF1.out HB1.out (Z.bel hS).sf (Z.bel hS).sb HNX.out
        rw [HCE.out,HPD.out.1,HPD.out.2.1,HPD.out.2.2] at hcc
        refine hcc.mono ?_
        clear hcc
        rintro er yk ⟨rfl,hqq⟩
        have hSn:=hS.trans (hqq.mono hS.size)
        clear hS
        refine Onward.on hSn (fun hS => ?_)
        try dsimp only at hS
        clear hSn
        try simp only [Act.put,Sp1,Sp2,Sp3,Sp4,Sp5,Sp6]
        refine AnyG.takeC (i:=7) (v:=?_) rfl (by as_aux_lemma => kernel_rfl) (fun _ _ _ h => h) rfl ?_ hS ?_
        rotate_left
        ·(intro w' hSw; (try dsimp only at hSw); go_simp; try with_reducible rfl)
        try simp only [Act.put,Sp1,Sp2,Sp3,Sp4,Sp5,Sp6]
        refine AnyG.takeC (i:=8) (v:=?_) rfl (by as_aux_lemma => kernel_rfl) (fun _ _ _ h => h) rfl ?_ hS ?_
        rotate_left
        ·(intro w' hSw; (try dsimp only at hSw); go_simp; try with_reducible rfl)
        try simp only [Act.put,Sp1,Sp2,Sp3,Sp4,Sp5,Sp6]
        refine AnyG.takeC (i:=9) (v:=?_) rfl (by as_aux_lemma => kernel_rfl) (fun _ _ _ h => h) rfl ?_ hS ?_
        rotate_left
        ·(intro w' hSw; (try dsimp only at hSw); go_simp; try with_reducible rfl)
        try simp only [Act.put,Sp1,Sp2,Sp3,Sp4,Sp5,Sp6]
        refine AnyG.one (i:=10) (by as_aux_lemma => kernel_rfl) rfl rfl ?_
        go_simp
        have k24:=Bx.new yk 23 #[.int .i64 0,.int .i64 0]
        have hbk24 : y5.heap.size ≤ yk.heap.size:=hS.size
        have hT:=hS.alloc hS.size (.cells #[.int .i64 0,.int .i64 0] 23)
        obtain ⟨ya,hya⟩ : ∃ x,yk.alloc (.cells #[.int .i64 0,.int .i64 0] 23) = x:=⟨_,rfl⟩
        rw [hya] at k24 hT ⊢
        obtain ⟨b24,hb24⟩ : ∃ p,yk.heap.size = p:=⟨_,rfl⟩
        rw [hb24] at k24 hbk24 ⊢
        clear hya hb24
        have hSn:=hT
        clear hS
        refine Onward.on hSn (fun hS => ?_)
        try dsimp only at hS
        clear hSn
        try simp only [Act.put,Sp1,Sp2,Sp3,Sp4,Sp5,Sp6]
        refine AnyG.one (i:=11) (by as_aux_lemma => kernel_rfl) rfl rfl ?_
        obtain ⟨m0,m1,mf,mz⟩:=k24.two
        go_simp
        have kn : Bx (World.setCell (World.setCell ya ⟨b24,0,none⟩ (.int .i64 P1)) ⟨b24,1,none⟩ (.int .i64 P2)) b24 23 #[.int .i64 P1,.int .i64 P2]:=by have:=(k24.set_ 0 (.int .i64 P1)).set_ 1 (.int .i64 P2); simpa using this
        clear m0 m1 mf mz
        have hSn:=(hS.setCell hbk24 (.int .i64 P1) (p:=⟨b24,0,none⟩)).setCell hbk24 (.int .i64 P2) (p:=⟨b24,1,none⟩)
        clear hS
        refine Onward.on hSn (fun hS => ?_)
        try dsimp only at hS
        clear hSn
        try simp only [Act.put,Sp1,Sp2,Sp3,Sp4,Sp5,Sp6]
        refine AnyG.one (i:=12) (by as_aux_lemma => kernel_rfl) rfl rfl ?_
        go_simp
        refine Onward.on hS (fun hS2 => ?_)
        clear hS2
        try simp only [Act.put,Sp1,Sp2,Sp3,Sp4,Sp5,Sp6]
        refine AnyG.done (by as_aux_lemma => kernel_rfl) ?_ _
        go_simp
        go_wp2_with fail
        go_meet
        exact ⟨b24,rfl,rfl,kn,hS⟩
       ·refine ⟨_,rfl,rfl,?_⟩
        go_simp
        have k24:=Bx.new y0 23 #[.int .i64 0,.int .i64 0]
        have hbk24 : y5.heap.size ≤ y0.heap.size:=hS.size
        have hT:=hS.alloc hS.size (.cells #[.int .i64 0,.int .i64 0] 23)
        obtain ⟨ya,hya⟩ : ∃ x,y0.alloc (.cells #[.int .i64 0,.int .i64 0] 23) = x:=⟨_,rfl⟩
        rw [hya] at k24 hT ⊢
        obtain ⟨b24,hb24⟩ : ∃ p,y0.heap.size = p:=⟨_,rfl⟩
        rw [hb24] at k24 hbk24 ⊢
        clear hya hb24
        have hSn:=hT
        clear hS
        refine Onward.on hSn (fun hS => ?_)
        try dsimp only at hS
        clear hSn
        try simp only [Act.put,Sp1,Sp2,Sp3,Sp4,Sp5,Sp6]
        refine AnyG.one (i:=6) (by as_aux_lemma => kernel_rfl) rfl rfl ?_
        go_simp
        have hcc:=paid_x st1 za zb A2 n1 c2 es1 FA2 f1 fc2 BA2 b1 bc2 fs1 bs1 d01 d11 F1 B1 qa qb R1 R2 E ya (by omega) HN1.out (Z.bel hS).ev (by omega) (by omega) HF1.out HB1.out (Z.bel hS).sf (Z.bel hS).sb HNX.out
        rw [HCE.out,HPD.out.1,HPD.out.2.1,HPD.out.2.2] at hcc
        refine hcc.mono ?_
        clear hcc
        rintro er yk ⟨rfl,hqq⟩
        replace k24:=k24.call hqq
        have hSn:=hS.trans (hqq.mono hS.size)
        clear hS
        refine Onward.on hSn (fun hS => ?_)
        try dsimp only at hS
        clear hSn
        try simp only [Act.put,Sp1,Sp2,Sp3,Sp4,Sp5,Sp6]
        refine AnyG.takeC (i:=7) (v:=?_) rfl (by as_aux_lemma => kernel_rfl) (fun _ _ _ h => h) rfl ?_ hS ?_
        rotate_left
        ·(intro w' hSw; (try dsimp only at hSw); go_simp; try with_reducible rfl)
        try simp only [Act.put,Sp1,Sp2,Sp3,Sp4,Sp5,Sp6]
        refine AnyG.takeC (i:=8) (v:=?_) rfl (by as_aux_lemma => kernel_rfl) (fun _ _ _ h => h) rfl ?_ hS ?_
        rotate_left
        ·(intro w' hSw; (try dsimp only at hSw); go_simp; try with_reducible rfl)
        try simp only [Act.put,Sp1,Sp2,Sp3,Sp4,Sp5,Sp6]
        refine AnyG.takeC (i:=9) (v:=?_) rfl (by as_aux_lemma => kernel_rfl) (fun _ _ _ h => h) rfl ?_ hS ?_
        rotate_left
        ·(intro w' hSw; (try dsimp only at hSw); go_simp; try with_reducible rfl)
        try simp only [Act.put,Sp1,Sp2,Sp3,Sp4,Sp5,Sp6]
        refine AnyG.one (i:=11) (by as_aux_lemma => kernel_rfl) rfl rfl ?_
        obtain ⟨m0,m1,mf,mz⟩:=k24.two
        go_simp
        have kn : Bx (World.setCell (World.setCell yk ⟨b24,0,none⟩ (.int .i64 P1)) ⟨b24,1,none⟩ (.int .i64 P2)) b24 23 #[.int .i64 P1,.int .i64 P2]:=by have:=(k24.set_ 0 (.int .i64 P1)).set_ 1 (.int .i64 P2); simpa using this
        clear m0 m1 mf mz
        have hSn:=(hS.setCell hbk24 (.int .i64 P1) (p:=⟨b24,0,none⟩)).setCell hbk24 (.int .i64 P2) (p:=⟨b24,1,none⟩)
        clear hS
        refine Onward.on hSn (fun hS => ?_)
        try dsimp only at hS
        clear hSn
        try simp only [Act.put,Sp1,Sp2,Sp3,Sp4,Sp5,Sp6]
        refine AnyG.one (i:=12) (by as_aux_lemma => kernel_rfl) rfl rfl ?_
        go_simp
        refine Onward.on hS (fun hS2 => ?_)
        clear hS2
        try simp only [Act.put,Sp1,Sp2,Sp3,Sp4,Sp5,Sp6]
        refine AnyG.done (by as_aux_lemma => kernel_rfl) ?_ _
        go_simp
        go_wp2_with fail
        go_meet
        exact ⟨b24,rfl,rfl,kn,hS⟩
      case rest =>
       obtain ⟨b24,rfl,rfl,k24,hqq⟩:=hcut
       obtain ⟨y6,rfl⟩ : ∃ x,x = wc:=⟨_,rfl⟩
       replace Z:=Z.bel hqq
       replace hr:=hr.bel hqq
       replace k20:=k20.call hqq
       replace k22:=k22.call hqq
       clear hqq
       go_upto_region 14 with fail
       go_cut [26,27] (fun va vb wx => ∃ b : Nat,va = .pointer (some ⟨b,0,none⟩) ∧ vb = .int .i64 PE ∧ Bx wx b 23 #[.int .i64 P1,.int .i64 P2] ∧ Below y6.heap.size y6 wx)
       case first =>
        refine AnyG.startC (by as_aux_lemma => kernel_rfl) ?_
        refine AnyG.takeP (i:=0) (v:=?_) rfl (by as_aux_lemma => kernel_rfl) (fun _ _ _ h => h) rfl ?_ ?_
        rotate_left
        ·(intro w'; go_simp; try with_reducible rfl)
        try simp only [Act.put,Sp1,Sp2,Sp3,Sp4,Sp5,Sp6]
        refine AnyG.takeP (i:=1) (v:=?_) rfl (by as_aux_lemma => kernel_rfl) (fun _ _ _ h => h) rfl ?_ ?_
        rotate_left
        ·(intro w'; go_simp; try with_reducible rfl)
        try simp only [Act.put,Sp1,Sp2,Sp3,Sp4,Sp5,Sp6]
        refine AnyG.takeP (i:=2) (v:=?_) rfl (by as_aux_lemma => kernel_rfl) (fun _ _ _ h => h) rfl ?_ ?_
        rotate_left
        ·(intro w'; go_simp; try with_reducible rfl)
        try simp only [Act.put,Sp1,Sp2,Sp3,Sp4,Sp5,Sp6]
        refine AnyG.takeP (i:=4) (v:=?_) rfl (by as_aux_lemma => kernel_rfl) (fun _ _ _ h => h) rfl ?_ ?_
        rotate_left
        ·(intro w'; go_simp; try with_reducible rfl)
        try simp only [Act.put,Sp1,Sp2,Sp3,Sp4,Sp5,Sp6]
        refine AnyG.takeP (i:=5) (v:=?_) rfl (by as_aux_lemma => kernel_rfl) (fun _ _ _ h => h) rfl ?_ ?_
        rotate_left
        ·(intro w'; go_simp; try with_reducible rfl)
        try simp only [Act.put,Sp1,Sp2,Sp3,Sp4,Sp5,Sp6]
        refine AnyG.takeP (i:=6) (v:=?_) rfl (by as_aux_lemma => kernel_rfl) (fun _ _ _ h => h) rfl ?_ ?_
        rotate_left
        ·(intro w'; go_simp; try with_reducible rfl)
        try simp only [Act.put,Sp1,Sp2,Sp3,Sp4,Sp5,Sp6]
        refine AnyG.takeP (i:=8) (v:=?_) rfl (by as_aux_lemma => kernel_rfl) (fun _ _ _ h => h) rfl ?_ ?_
        rotate_left
        ·(intro w'; go_simp; try with_reducible rfl)
        try simp only [Act.put,Sp1,Sp2,Sp3,Sp4,Sp5,Sp6]
        refine AnyG.takeP (i:=9) (v:=?_) rfl (by as_aux_lemma => kernel_rfl) (fun _ _ _ h => h) rfl ?_ ?_
        rotate_left
        ·(intro w'; go_simp; try with_reducible rfl)
        try simp only [Act.put,Sp1,Sp2,Sp3,Sp4,Sp5,Sp6]
        refine AnyG.takeP (i:=10) (v:=?_) rfl (by as_aux_lemma => kernel_rfl) (fun _ _ _ h => h) rfl ?_ ?_
        rotate_left
        ·(intro w'; go_simp; try with_reducible rfl)
        try simp only [Act.put,Sp1,Sp2,Sp3,Sp4,Sp5,Sp6]
        refine AnyG.enter (fun w' : World => Below y6.heap.size y6 w') (fun i => true) ?_
        have hS : (fun w' : World => Below y6.heap.size y6 w') (y6.drew):=(Below.refl _ _).drew
        try dsimp only at hS
        obtain ⟨y0,hy0⟩ : ∃ y,y6.drew = y:=⟨_,rfl⟩
        rw [hy0] at hS ⊢
        clear hy0
        refine AnyG.takeC (i:=3) (v:=?_) rfl (by as_aux_lemma => kernel_rfl) (fun _ _ _ h => h) rfl ?_ hS ?_
        rotate_left
        ·(intro w' hSw; (try dsimp only at hSw); have Zl:=(Z.bel hSw).la; have r0:=Zl.c0; have r1:=Zl.c1; have r2:=Zl.c2; have r3:=Zl.c3; dsimp only at r0 r1 r2 r3; rw [HN1.out] at r3; go_simp; try with_reducible rfl)
        try simp only [Act.put,Sp1,Sp2,Sp3,Sp4,Sp5,Sp6]
        refine AnyG.takeC (i:=7) (v:=?_) rfl (by as_aux_lemma => kernel_rfl) (fun _ _ _ h => h) rfl ?_ hS ?_
        rotate_left
        ·(intro w' hSw; (try dsimp only at hSw); have Zs:=(Z.bel hSw).sa; have v0:=Zs.c0; have v1:=Zs.c1; have v2:=Zs.c2; have v3:=Zs.c3; have v4:=Zs.c4; have v5:=Zs.c5; dsimp only at v0 v1 v2 v3 v4 v5; rw [HF1.out] at v0; rw [HB1.out] at v1; go_simp; try with_reducible rfl)
        try simp only [Act.put,Sp1,Sp2,Sp3,Sp4,Sp5,Sp6]
        refine AnyG.takeC (i:=11) (v:=?_) rfl (by as_aux_lemma => kernel_rfl) (fun _ _ _ h => h) rfl ?_ hS ?_
        rotate_left
        ·(intro w' hSw; (try dsimp only at hSw); have Zr:=hr.bel hSw; have g0:=Zr.c0; have g1:=Zr.c1; go_simp; try with_reducible rfl)
        try simp only [Act.put,Sp1,Sp2,Sp3,Sp4,Sp5,Sp6]
        refine AnyG.all (rs:=[12,16]) (by as_aux_lemma => kernel_rfl) (by simp) ?_
        intro ii hii
        simp only [List.mem_cons,List.not_mem_nil,or_false] at hii
        rcases hii with rfl | rfl
        ·refine ⟨_,rfl,rfl,?_⟩
         go_simp
         have hcc:=refPaid_x st1 za zb A1 n1 c1 es1 FA1 f1 fc1 BA1 b1 bc1 fs1 bs1 d01 d11 F1 B1 qa qb R1 R2 E y0 (by omega) HN1.out (Z.bel hS).la.ev (by omega) (by omega) HF1.out HB1.out (Z.bel hS).sa.sf (Z.bel hS).sa.sb HNX.out
         rw [HCE.out,HPD.out.1,HPD.out.2.1,HPD.out.2.2] at hcc
         refine hcc.mono ?_
         clear hcc
         rintro er yk ⟨rfl,hqq⟩
         have hSn:=hS.trans (hqq.mono hS.size)
         clear hS
         refine Onward.on hSn (fun hS => ?_)
         try dsimp only at hS
         clear hSn
         try simp only [Act.put,Sp1,Sp2,Sp3,Sp4,Sp5,Sp6]
         refine AnyG.takeC (i:=13) (v:=?_) rfl (by as_aux_lemma => kernel_rfl) (fun _ _ _ h => h) rfl ?_ hS ?_
         rotate_left
         ·(intro w' hSw; (try dsimp only at hSw); go_simp; try with_reducible rfl)
         try simp only [Act.put,Sp1,Sp2,Sp3,Sp4,Sp5,Sp6]
         refine AnyG.takeC (i:=14) (v:=?_) rfl (by as_aux_lemma => kernel_rfl) (fun _ _ _ h => h) rfl ?_ hS ?_
         rotate_left
         ·(intro w' hSw; (try dsimp only at hSw); go_simp; try with_reducible rfl)
         try simp only [Act.put,Sp1,Sp2,Sp3,Sp4,Sp5,Sp6]
         refine AnyG.takeC (i:=15) (v:=?_) rfl (by as_aux_lemma => kernel_rfl) (fun _ _ _ h => h) rfl ?_ hS ?_
         rotate_left
         ·(intro w' hSw; (try dsimp only at hSw); go_simp; try with_reducible rfl)
         try simp only [Act.put,Sp1,Sp2,Sp3,Sp4,Sp5,Sp6]
         refine AnyG.one (i:=16) (by as_aux_lemma => kernel_rfl) rfl rfl ?_
         go_simp
         have k26:=Bx.new yk 23 #[.int .i64 0,.int .i64 0]
         have hbk26 : y6.heap.size ≤ yk.heap.size:=hS.size
         have hT:=hS.alloc hS.size (.cells #[.int .i64 0,.int .i64 0] 23)
         obtain ⟨ya,hya⟩ : ∃ x,yk.alloc (.cells #[.int .i64 0,.int .i64 0] 23) = x:=⟨_,rfl⟩
         rw [hya] at k26 hT ⊢
         obtain ⟨b26,hb26⟩ : ∃ p,yk.heap.size = p:=⟨_,rfl⟩
         rw [hb26] at k26 hbk26 ⊢
         clear hya hb26
         have hSn:=hT
         clear hS
         refine Onward.on hSn (fun hS => ?_)
         try dsimp only at hS
         clear hSn
         try simp only [Act.put,Sp1,Sp2,Sp3,Sp4,Sp5,Sp6]
         refine AnyG.one (i:=17) (by as_aux_lemma => kernel_rfl) rfl rfl ?_
         obtain ⟨m0,m1,mf,mz⟩:=k26.two
         go_simp
         have kn : Bx (World.setCell (World.setCell ya ⟨b26,0,none⟩ (.int .i64 P1)) ⟨b26,1,none⟩ (.int .i64 P2)) b26 23 #[.int .i64 P1,.int .i64 P2]:=by have:=(k26.set_ 0 (.int .i64 P1)).set_ 1 (.int .i64 P2); simpa using this
         clear m0 m1 mf mz
         have hSn:=(hS.setCell hbk26 (.int .i64 P1) (p:=⟨b26,0,none⟩)).setCell hbk26 (.int .i64 P2) (p:=⟨b26,1,none⟩)
         clear hS
         refine Onward.on hSn (fun hS => ?_)
         try dsimp only at hS
         clear hSn
         try simp only [Act.put,Sp1,Sp2,Sp3,Sp4,Sp5,Sp6]
         refine AnyG.one (i:=18) (by as_aux_lemma => kernel_rfl) rfl rfl ?_
         go_simp
         refine Onward.on hS (fun hS2 => ?_)
         clear hS2
         try simp only [Act.put,Sp1,Sp2,Sp3,Sp4,Sp5,Sp6]
         refine AnyG.done (by as_aux_lemma => kernel_rfl) ?_ _
         go_simp
         go_wp2_with fail
         go_meet
         exact ⟨b26,rfl,rfl,kn,hS⟩
        ·refine ⟨_,rfl,rfl,?_⟩
         go_simp
         have k26:=Bx.new y0 23 #[.int .i64 0,.int .i64 0]
         have hbk26 : y6.heap.size ≤ y0.heap.size:=hS.size
         have hT:=hS.alloc hS.size (.cells #[.int .i64 0,.int .i64 0] 23)
         obtain ⟨ya,hya⟩ : ∃ x,y0.alloc (.cells #[.int .i64 0,.int .i64 0] 23) = x:=⟨_,rfl⟩
         rw [hya] at k26 hT ⊢
         obtain ⟨b26,hb26⟩ : ∃ p,y0.heap.size = p:=⟨_,rfl⟩
         rw [hb26] at k26 hbk26 ⊢
         clear hya hb26
         have hSn:=hT
         clear hS
         refine Onward.on hSn (fun hS => ?_)
         try dsimp only at hS
         clear hSn
         try simp only [Act.put,Sp1,Sp2,Sp3,Sp4,Sp5,Sp6]
         refine AnyG.one (i:=12) (by as_aux_lemma => kernel_rfl) rfl rfl ?_
         go_simp
         have hcc:=refPaid_x st1 za zb A1 n1 c1 es1 FA1 f1 fc1 BA1 b1 bc1 fs1 bs1 d01 d11 F1 B1 qa qb R1 R2 E ya (by omega) HN1.out (Z.bel hS).la.ev (by omega) (by omega) HF1.out HB1.out (Z.bel hS).sa.sf (Z.bel hS).sa.sb HNX.out
         rw [HCE.out,HPD.out.1,HPD.out.2.1,HPD.out.2.2] at hcc
         refine hcc.mono ?_
         clear hcc
         rintro er yk ⟨rfl,hqq⟩
         replace k26:=k26.call hqq
         have hSn:=hS.trans (hqq.mono hS.size)
         clear hS
         refine Onward.on hSn (fun hS => ?_)
         try dsimp only at hS
         clear hSn
         try simp only [Act.put,Sp1,Sp2,Sp3,Sp4,Sp5,Sp6]
         refine AnyG.takeC (i:=13) (v:=?_) rfl (by as_aux_lemma => kernel_rfl) (fun _ _ _ h => h) rfl ?_ hS ?_
         rotate_left
         ·(intro w' hSw; (try dsimp only at hSw); go_simp; try with_reducible rfl)
         try simp only [Act.put,Sp1,Sp2,Sp3,Sp4,Sp5,Sp6]
         refine AnyG.takeC (i:=14) (v:=?_) rfl (by as_aux_lemma => kernel_rfl) (fun _ _ _ h => h) rfl ?_ hS ?_
         rotate_left
         ·(intro w' hSw; (try dsimp only at hSw); go_simp; try with_reducible rfl)
         try simp only [Act.put,Sp1,Sp2,Sp3,Sp4,Sp5,Sp6]
         refine AnyG.takeC (i:=15) (v:=?_) rfl (by as_aux_lemma => kernel_rfl) (fun _ _ _ h => h) rfl ?_ hS ?_
         rotate_left
         ·(intro w' hSw; (try dsimp only at hSw); go_simp; try with_reducible rfl)
         try simp only [Act.put,Sp1,Sp2,Sp3,Sp4,Sp5,Sp6]
         refine AnyG.one (i:=17) (by as_aux_lemma => kernel_rfl) rfl rfl ?_
         obtain ⟨m0,m1,mf,mz⟩:=k26.two
         go_simp
         have kn : Bx (World.setCell (World.setCell yk ⟨b26,0,none⟩ (.int .i64 P1)) ⟨b26,1,none⟩ (.int .i64 P2)) b26 23 #[.int .i64 P1,.int .i64 P2]:=by have:=(k26.set_ 0 (.int .i64 P1)).set_ 1 (.int .i64 P2); simpa using this
         clear m0 m1 mf mz
         have hSn:=(hS.setCell hbk26 (.int .i64 P1) (p:=⟨b26,0,none⟩)).setCell hbk26 (.int .i64 P2) (p:=⟨b26,1,none⟩)
         clear hS
         refine Onward.on hSn (fun hS => ?_)
         try dsimp only at hS
         clear hSn
         try simp only [Act.put,Sp1,Sp2,Sp3,Sp4,Sp5,Sp6]
         refine AnyG.one (i:=18) (by as_aux_lemma => kernel_rfl) rfl rfl ?_
         go_simp
         refine Onward.on hS (fun hS2 => ?_)
         clear hS2
         try simp only [Act.put,Sp1,Sp2,Sp3,Sp4,Sp5,Sp6]
         refine AnyG.done (by as_aux_lemma => kernel_rfl) ?_ _
         go_simp
         go_wp2_with fail
         go_meet
         exact ⟨b26,rfl,rfl,kn,hS⟩
       case rest =>
        obtain ⟨b26,rfl,rfl,k26,hqq⟩:=hcut
        obtain ⟨y7,rfl⟩ : ∃ x,x = wc:=⟨_,rfl⟩
        replace Z:=Z.bel hqq
        replace k20:=k20.call hqq
        replace k22:=k22.call hqq
        replace k24:=k24.call hqq
        clear hqq hr
        go_upto_region 15 with fail
        refine AnyG.startC (by as_aux_lemma => kernel_rfl) ?_
        refine AnyG.takeP (i:=3) (v:=?_) rfl (by as_aux_lemma => kernel_rfl) (fun _ _ _ h => h) rfl ?_ ?_
        rotate_left
        ·(intro w'; go_simp; try with_reducible rfl)
        try simp only [Act.put,Sp1,Sp2,Sp3,Sp4,Sp5,Sp6]
        refine AnyG.takeP (i:=4) (v:=?_) rfl (by as_aux_lemma => kernel_rfl) (fun _ _ _ h => h) rfl ?_ ?_
        rotate_left
        ·(intro w'; go_simp; try with_reducible rfl)
        try simp only [Act.put,Sp1,Sp2,Sp3,Sp4,Sp5,Sp6]
        refine AnyG.takeP (i:=5) (v:=?_) rfl (by as_aux_lemma => kernel_rfl) (fun _ _ _ h => h) rfl ?_ ?_
        rotate_left
        ·(intro w'; go_simp; try with_reducible rfl)
        try simp only [Act.put,Sp1,Sp2,Sp3,Sp4,Sp5,Sp6]
        refine AnyG.takeP (i:=7) (v:=?_) rfl (by as_aux_lemma => kernel_rfl) (fun _ _ _ h => h) rfl ?_ ?_
        rotate_left
        ·(intro w'; go_simp; try with_reducible rfl)
        try simp only [Act.put,Sp1,Sp2,Sp3,Sp4,Sp5,Sp6]
        refine AnyG.takeP (i:=8) (v:=?_) rfl (by as_aux_lemma => kernel_rfl) (fun _ _ _ h => h) rfl ?_ ?_
        rotate_left
        ·(intro w'; go_simp; try with_reducible rfl)
        try simp only [Act.put,Sp1,Sp2,Sp3,Sp4,Sp5,Sp6]
        refine AnyG.takeP (i:=9) (v:=?_) rfl (by as_aux_lemma => kernel_rfl) (fun _ _ _ h => h) rfl ?_ ?_
        rotate_left
        ·(intro w'; go_simp; try with_reducible rfl)
        try simp only [Act.put,Sp1,Sp2,Sp3,Sp4,Sp5,Sp6]
        refine AnyG.enter (fun w' : World => Below y7.heap.size y7 w') (fun i => true) ?_
        have hS : (fun w' : World => Below y7.heap.size y7 w') (World.drew _):=(Below.refl _ _).drew
        refine AnyG.takeC (i:=0) (v:=?_) rfl (by as_aux_lemma => kernel_rfl) (fun _ _ _ h => h) rfl ?_ hS ?_
        rotate_left
        ·(intro w' hSw; (try dsimp only at hSw); have k12:=(Z.bel hSw).kB; dsimp only at k12; rw [HN1.out] at k12; obtain ⟨p0,p1,p2,p3,pf,pz⟩:=k12.four; go_simp; try with_reducible rfl)
        try simp only [Act.put,Sp1,Sp2,Sp3,Sp4,Sp5,Sp6]
        refine AnyG.takeC (i:=1) (v:=?_) rfl (by as_aux_lemma => kernel_rfl) (fun _ _ _ h => h) rfl ?_ hS ?_
        rotate_left
        ·(intro w' hSw; (try dsimp only at hSw); have k13:=(Z.bel hSw).kS; dsimp only at k13; rw [HF1.out,HB1.out] at k13; obtain ⟨s0,s1,s2,s3,s4,s5,sf,sz⟩:=k13.six; go_simp; try with_reducible rfl)
        try simp only [Act.put,Sp1,Sp2,Sp3,Sp4,Sp5,Sp6]
        refine AnyG.takeC (i:=6) (v:=?_) rfl (by as_aux_lemma => kernel_rfl) (fun _ _ _ h => h) rfl ?_ hS ?_
        rotate_left
        ·(intro w' hSw; (try dsimp only at hSw); have Zl:=(Z.bel hSw).la; have r0:=Zl.c0; have r1:=Zl.c1; have r2:=Zl.c2; have r3:=Zl.c3; dsimp only at r0 r1 r2 r3; rw [HN1.out] at r3; go_simp; try with_reducible rfl)
        try simp only [Act.put,Sp1,Sp2,Sp3,Sp4,Sp5,Sp6]
        refine AnyG.takeC (i:=10) (v:=?_) rfl (by as_aux_lemma => kernel_rfl) (fun _ _ _ h => h) rfl ?_ hS ?_
        rotate_left
        ·(intro w' hSw; (try dsimp only at hSw); have Zs:=(Z.bel hSw).sa; have v0:=Zs.c0; have v1:=Zs.c1; have v2:=Zs.c2; have v3:=Zs.c3; have v4:=Zs.c4; have v5:=Zs.c5; dsimp only at v0 v1 v2 v3 v4 v5; rw [HF1.out] at v0; rw [HB1.out] at v1; go_simp; try with_reducible rfl)
        try simp only [Act.put,Sp1,Sp2,Sp3,Sp4,Sp5,Sp6]
        refine AnyG.one (i:=2) (by as_aux_lemma => kernel_rfl) rfl rfl ?_
        go_simp
        refine (checkSlip_any st1 za zb A2 n1 c2 es1 FA2 f1 fc2 BA2 b1 bc2 fs1 bs1 d01 d11 F1 B1 _ (by omega) HN1.out (Z.bel hS).ev (by omega) (by omega) HF1.out HB1.out (Z.bel hS).sf (Z.bel hS).sb).mono ?_
        rw [HCE.out]
        rintro er u2 ⟨rfl,hp2⟩
        have hT:=hS.trans (hp2.mono hS.size)
        clear hS
        have hS:=hT
        clear hT
        refine Onward.on hS (fun hS2 => ?_)
        clear hS
        have hS:=hS2
        clear hS2
        try simp only [Act.put,Sp1,Sp2,Sp3,Sp4,Sp5,Sp6]
        refine AnyG.one (i:=11) (by as_aux_lemma => kernel_rfl) rfl rfl ?_
        go_simp
        refine (refSlip_any st1 za zb A1 n1 c1 es1 FA1 f1 fc1 BA1 b1 bc1 fs1 bs1 d01 d11 F1 B1 _ (by omega) HN1.out (Z.bel hS).la.ev (by omega) (by omega) HF1.out HB1.out (Z.bel hS).sa.sf (Z.bel hS).sa.sb).mono ?_
        rw [HCE.out]
        rintro er u11 ⟨rfl,hp11⟩
        have hT:=hS.trans (hp11.mono hS.size)
        clear hS
        have hS:=hT
        clear hT
        refine Onward.on hS (fun hS2 => ?_)
        clear hS
        have hS:=hS2
        clear hS2
        try simp only [Act.put,Sp1,Sp2,Sp3,Sp4,Sp5,Sp6]
        refine AnyG.takeC (i:=12) (v:=?_) rfl (by as_aux_lemma => kernel_rfl) (fun _ _ _ h => h) rfl ?_ hS ?_
        rotate_left
        ·(intro w' hSw; (try dsimp only at hSw); go_simp; try with_reducible rfl)
        try simp only [Act.put,Sp1,Sp2,Sp3,Sp4,Sp5,Sp6]
        refine AnyG.takeC (i:=13) (v:=?_) rfl (by as_aux_lemma => kernel_rfl) (fun _ _ _ h => h) rfl ?_ hS ?_
        rotate_left
        ·(intro w' hSw; (try dsimp only at hSw); go_simp; try with_reducible rfl)
        try simp only [Act.put,Sp1,Sp2,Sp3,Sp4,Sp5,Sp6]
        refine AnyG.takeGC (i:=14) (v:=?_) rfl (by as_aux_lemma => kernel_rfl) (fun _ _ _ h => h) (by first | (simp [Region.wanted,yielded]; done) | simp [Region.wanted,yielded,undef]) ?_ hS ?_
        rotate_left
        ·(intro w' hSw; (try dsimp only at hSw); obtain ⟨m0,m1,mf,mz⟩:=(k20.call hSw).two; go_simp; try with_reducible rfl)
        try simp only [Act.put,Sp1,Sp2,Sp3,Sp4,Sp5,Sp6]
        refine AnyG.takeGC (i:=15) (v:=?_) rfl (by as_aux_lemma => kernel_rfl) (fun _ _ _ h => h) (by first | (simp [Region.wanted,yielded]; done) | simp [Region.wanted,yielded,undef]) ?_ hS ?_
        rotate_left
        ·(intro w' hSw; (try dsimp only at hSw); obtain ⟨m0,m1,mf,mz⟩:=(k22.call hSw).two; go_simp; try with_reducible rfl)
        try simp only [Act.put,Sp1,Sp2,Sp3,Sp4,Sp5,Sp6]
        refine AnyG.takeGC (i:=16) (v:=?_) rfl (by as_aux_lemma => kernel_rfl) (fun _ _ _ h => h) (by first | (simp [Region.wanted,yielded]; done) | simp [Region.wanted,yielded,undef]) ?_ hS ?_
        rotate_left
        ·(intro w' hSw; (try dsimp only at hSw); go_simp; try with_reducible rfl)
        try simp only [Act.put,Sp1,Sp2,Sp3,Sp4,Sp5,Sp6]
        refine AnyG.takeC (i:=17) (v:=?_) rfl (by as_aux_lemma => kernel_rfl) (fun _ _ _ h => h) rfl ?_ hS ?_
        rotate_left
        ·(intro w' hSw; (try dsimp only at hSw); go_simp; try with_reducible rfl)
        try simp only [Act.put,Sp1,Sp2,Sp3,Sp4,Sp5,Sp6]
        refine AnyG.takeC (i:=18) (v:=?_) rfl (by as_aux_lemma => kernel_rfl) (fun _ _ _ h => h) rfl ?_ hS ?_
        rotate_left
        ·(intro w' hSw; (try dsimp only at hSw); go_simp; try with_reducible rfl)
        try simp only [Act.put,Sp1,Sp2,Sp3,Sp4,Sp5,Sp6]
        refine AnyG.takeGC (i:=19) (v:=?_) rfl (by as_aux_lemma => kernel_rfl) (fun _ _ _ h => h) (by first | (simp [Region.wanted,yielded]; done) | simp [Region.wanted,yielded,undef]) ?_ hS ?_
        rotate_left
        ·(intro w' hSw; (try dsimp only at hSw); go_simp; try with_reducible rfl)
        try simp only [Act.put,Sp1,Sp2,Sp3,Sp4,Sp5,Sp6]
        refine AnyG.takeGC (i:=20) (v:=?_) rfl (by as_aux_lemma => kernel_rfl) (fun _ _ _ h => h) (by first | (simp [Region.wanted,yielded]; done) | simp [Region.wanted,yielded,undef]) ?_ hS ?_
        rotate_left
        ·(intro w' hSw; (try dsimp only at hSw); go_simp; try with_reducible rfl)
        try simp only [Act.put,Sp1,Sp2,Sp3,Sp4,Sp5,Sp6]
        refine AnyG.takeGC (i:=21) (v:=?_) rfl (by as_aux_lemma => kernel_rfl) (fun _ _ _ h => h) (by first | (simp [Region.wanted,yielded]; done) | simp [Region.wanted,yielded,undef]) ?_ hS ?_
        rotate_left
        ·(intro w' hSw; (try dsimp only at hSw); go_simp; try with_reducible rfl)
        try simp only [Act.put,Sp1,Sp2,Sp3,Sp4,Sp5,Sp6]
        refine AnyG.takeC (i:=22) (v:=?_) rfl (by as_aux_lemma => kernel_rfl) (fun _ _ _ h => h) rfl ?_ hS ?_
        rotate_left
        ·(intro w' hSw; (try dsimp only at hSw); go_simp; try with_reducible rfl)
        try simp only [Act.put,Sp1,Sp2,Sp3,Sp4,Sp5,Sp6]
        refine AnyG.takeC (i:=23) (v:=?_) rfl (by as_aux_lemma => kernel_rfl) (fun _ _ _ h => h) rfl ?_ hS ?_
        rotate_left
        ·(intro w' hSw; (try dsimp only at hSw); go_simp; try with_reducible rfl)
        try simp only [Act.put,Sp1,Sp2,Sp3,Sp4,Sp5,Sp6]
        refine AnyG.takeGC (i:=24) (v:=?_) rfl (by as_aux_lemma => kernel_rfl) (fun _ _ _ h => h) (by first | (simp [Region.wanted,yielded]; done) | simp [Region.wanted,yielded,undef]) ?_ hS ?_
        rotate_left
        ·(intro w' hSw; (try dsimp only at hSw); obtain ⟨m0,m1,mf,mz⟩:=(k24.call hSw).two; go_simp; try with_reducible rfl)
        try simp only [Act.put,Sp1,Sp2,Sp3,Sp4,Sp5,Sp6]
        refine AnyG.takeGC (i:=25) (v:=?_) rfl (by as_aux_lemma => kernel_rfl) (fun _ _ _ h => h) (by first | (simp [Region.wanted,yielded]; done) | simp [Region.wanted,yielded,undef]) ?_ hS ?_
        rotate_left
        ·(intro w' hSw; (try dsimp only at hSw); obtain ⟨m0,m1,mf,mz⟩:=(k26.call hSw).two; go_simp; try with_reducible rfl)
        try simp only [Act.put,Sp1,Sp2,Sp3,Sp4,Sp5,Sp6]
        refine AnyG.takeGC (i:=26) (v:=?_) rfl (by as_aux_lemma => kernel_rfl) (fun _ _ _ h => h) (by first | (simp [Region.wanted,yielded]; done) | simp [Region.wanted,yielded,undef]) ?_ hS ?_
        rotate_left
        ·(intro w' hSw; (try dsimp only at hSw); go_simp; try with_reducible rfl)
        try simp only [Act.put,Sp1,Sp2,Sp3,Sp4,Sp5,Sp6]
        refine AnyG.takeC (i:=27) (v:=?_) rfl (by as_aux_lemma => kernel_rfl) (fun _ _ _ h => h) rfl ?_ hS ?_
        rotate_left
        ·(intro w' hSw; (try dsimp only at hSw); go_simp; try with_reducible rfl)
        try simp only [Act.put,Sp1,Sp2,Sp3,Sp4,Sp5,Sp6]
        refine AnyG.takeC (i:=28) (v:=?_) rfl (by as_aux_lemma => kernel_rfl) (fun _ _ _ h => h) rfl ?_ hS ?_
        rotate_left
        ·(intro w' hSw; (try dsimp only at hSw); go_simp; try with_reducible rfl)
        try simp only [Act.put,Sp1,Sp2,Sp3,Sp4,Sp5,Sp6]
        refine AnyG.takeGC (i:=29) (v:=?_) rfl (by as_aux_lemma => kernel_rfl) (fun _ _ _ h => h) (by first | (simp [Region.wanted,yielded]; done) | simp [Region.wanted,yielded,undef]) ?_ hS ?_
        rotate_left
        ·(intro w' hSw; (try dsimp only at hSw); go_simp; try with_reducible rfl)
        try simp only [Act.put,Sp1,Sp2,Sp3,Sp4,Sp5,Sp6]
        refine AnyG.takeGC (i:=30) (v:=?_) rfl (by as_aux_lemma => kernel_rfl) (fun _ _ _ h => h) (by first | (simp [Region.wanted,yielded]; done) | simp [Region.wanted,yielded,undef]) ?_ hS ?_
        rotate_left
        ·(intro w' hSw; (try dsimp only at hSw); go_simp; try with_reducible rfl)
        try simp only [Act.put,Sp1,Sp2,Sp3,Sp4,Sp5,Sp6]
        refine AnyG.takeGC (i:=31) (v:=?_) rfl (by as_aux_lemma => kernel_rfl) (fun _ _ _ h => h) (by first | (simp [Region.wanted,yielded]; done) | simp [Region.wanted,yielded,undef]) ?_ hS ?_
        rotate_left
        ·(intro w' hSw; (try dsimp only at hSw); go_simp; try with_reducible rfl)
        try simp only [Act.put,Sp1,Sp2,Sp3,Sp4,Sp5,Sp6]
        refine AnyG.takeC (i:=32) (v:=?_) rfl (by as_aux_lemma => kernel_rfl) (fun _ _ _ h => h) rfl ?_ hS ?_
        rotate_left
        ·(intro w' hSw; (try dsimp only at hSw); go_simp; try with_reducible rfl)
        try simp only [Act.put,Sp1,Sp2,Sp3,Sp4,Sp5,Sp6]
        refine AnyG.takeC (i:=33) (v:=?_) rfl (by as_aux_lemma => kernel_rfl) (fun _ _ _ h => h) rfl ?_ hS ?_
        rotate_left
        ·(intro w' hSw; (try dsimp only at hSw); go_simp; try with_reducible rfl)
        try simp only [Act.put,Sp1,Sp2,Sp3,Sp4,Sp5,Sp6]
        refine AnyG.takeGC (i:=34) (v:=?_) rfl (by as_aux_lemma => kernel_rfl) (fun _ _ _ h => h) (by first | (simp [Region.wanted,yielded]; done) | simp [Region.wanted,yielded,undef]) ?_ hS ?_
        rotate_left
        ·(intro w' hSw; (try dsimp only at hSw); have k12:=(Z.bel hSw).kB; dsimp only at k12; rw [HN1.out] at k12; obtain ⟨p0,p1,p2,p3,pf,pz⟩:=k12.four; go_simp; try with_reducible rfl)
        try simp only [Act.put,Sp1,Sp2,Sp3,Sp4,Sp5,Sp6]
        refine AnyG.takeGC (i:=35) (v:=?_) rfl (by as_aux_lemma => kernel_rfl) (fun _ _ _ h => h) (by first | (simp [Region.wanted,yielded]; done) | simp [Region.wanted,yielded,undef]) ?_ hS ?_
        rotate_left
        ·(intro w' hSw; (try dsimp only at hSw); go_simp; try with_reducible rfl)
        try simp only [Act.put,Sp1,Sp2,Sp3,Sp4,Sp5,Sp6]
        refine AnyG.takeGC (i:=36) (v:=?_) rfl (by as_aux_lemma => kernel_rfl) (fun _ _ _ h => h) (by first | (simp [Region.wanted,yielded]; done) | simp [Region.wanted,yielded,undef]) ?_ hS ?_
        rotate_left
        ·(intro w' hSw; (try dsimp only at hSw); go_simp; try with_reducible rfl)
        try simp only [Act.put,Sp1,Sp2,Sp3,Sp4,Sp5,Sp6]
        refine AnyG.takeGC (i:=37) (v:=?_) rfl (by as_aux_lemma => kernel_rfl) (fun _ _ _ h => h) (by first | (simp [Region.wanted,yielded]; done) | simp [Region.wanted,yielded,undef]) ?_ hS ?_
        rotate_left
        ·(intro w' hSw; (try dsimp only at hSw); go_simp; try with_reducible rfl)
        try simp only [Act.put,Sp1,Sp2,Sp3,Sp4,Sp5,Sp6]
        refine AnyG.takeGC (i:=38) (v:=?_) rfl (by as_aux_lemma => kernel_rfl) (fun _ _ _ h => h) (by first | (simp [Region.wanted,yielded]; done) | simp [Region.wanted,yielded,undef]) ?_ hS ?_
        rotate_left
        ·(intro w' hSw; (try dsimp only at hSw); have Zl:=(Z.bel hSw).la; have r0:=Zl.c0; have r1:=Zl.c1; have r2:=Zl.c2; have r3:=Zl.c3; dsimp only at r0 r1 r2 r3; rw [HN1.out] at r3; go_simp; try with_reducible rfl)
        try simp only [Act.put,Sp1,Sp2,Sp3,Sp4,Sp5,Sp6]
        refine AnyG.oneC (i:=39) (by as_aux_lemma => kernel_rfl) rfl (by first | (simp [Region.wanted,yielded]; done) | simp [Region.wanted,yielded,undef]) ?_
        go_simp
        refine (equalLogs_same st1 za zb A2 n1 c2 A1 c1 es1 _ (by omega) HN1.out (Z.bel hS).ev (Z.bel hS).la.ev).mono ?_
        rintro er u39 ⟨rfl,hp39⟩
        have hT:=hS.trans (hp39.mono hS.size)
        clear hS
        have hS:=hT
        clear hT
        refine Onward.on hS (fun hS2 => ?_)
        clear hS
        have hS:=hS2
        clear hS2
        try simp only [Act.put,Sp1,Sp2,Sp3,Sp4,Sp5,Sp6]
        refine AnyG.takeGC (i:=40) (v:=?_) rfl (by as_aux_lemma => kernel_rfl) (fun _ _ _ h => h) (by first | (simp [Region.wanted,yielded]; done) | simp [Region.wanted,yielded,undef]) ?_ hS ?_
        rotate_left
        ·(intro w' hSw; (try dsimp only at hSw); go_simp; try with_reducible rfl)
        try simp only [Act.put,Sp1,Sp2,Sp3,Sp4,Sp5,Sp6]
        refine AnyG.takeC (i:=41) (v:=?_) rfl (by as_aux_lemma => kernel_rfl) (fun _ _ _ h => h) rfl ?_ hS ?_
        rotate_left
        ·(intro w' hSw; (try dsimp only at hSw); go_simp; try with_reducible rfl)
        try simp only [Act.put,Sp1,Sp2,Sp3,Sp4,Sp5,Sp6]
        refine AnyG.takeC (i:=42) (v:=?_) rfl (by as_aux_lemma => kernel_rfl) (fun _ _ _ h => h) rfl ?_ hS ?_
        rotate_left
        ·(intro w' hSw; (try dsimp only at hSw); go_simp; try with_reducible rfl)
        try simp only [Act.put,Sp1,Sp2,Sp3,Sp4,Sp5,Sp6]
        refine AnyG.takeGC (i:=43) (v:=?_) rfl (by as_aux_lemma => kernel_rfl) (fun _ _ _ h => h) (by first | (simp [Region.wanted,yielded]; done) | simp [Region.wanted,yielded,undef]) ?_ hS ?_
        rotate_left
        ·(intro w' hSw; (try dsimp only at hSw); have k13:=(Z.bel hSw).kS; dsimp only at k13; rw [HF1.out,HB1.out] at k13; obtain ⟨s0,s1,s2,s3,s4,s5,sf,sz⟩:=k13.six; go_simp; try with_reducible rfl)
        try simp only [Act.put,Sp1,Sp2,Sp3,Sp4,Sp5,Sp6]
        refine AnyG.takeGC (i:=44) (v:=?_) rfl (by as_aux_lemma => kernel_rfl) (fun _ _ _ h => h) (by first | (simp [Region.wanted,yielded]; done) | simp [Region.wanted,yielded,undef]) ?_ hS ?_
        rotate_left
        ·(intro w' hSw; (try dsimp only at hSw); go_simp; try with_reducible rfl)
        try simp only [Act.put,Sp1,Sp2,Sp3,Sp4,Sp5,Sp6]
        refine AnyG.takeGC (i:=45) (v:=?_) rfl (by as_aux_lemma => kernel_rfl) (fun _ _ _ h => h) (by first | (simp [Region.wanted,yielded]; done) | simp [Region.wanted,yielded,undef]) ?_ hS ?_
        rotate_left
        ·(intro w' hSw; (try dsimp only at hSw); go_simp; try with_reducible rfl)
        try simp only [Act.put,Sp1,Sp2,Sp3,Sp4,Sp5,Sp6]
        refine AnyG.takeGC (i:=46) (v:=?_) rfl (by as_aux_lemma => kernel_rfl) (fun _ _ _ h => h) (by first | (simp [Region.wanted,yielded]; done) | simp [Region.wanted,yielded,undef]) ?_ hS ?_
        rotate_left
        ·(intro w' hSw; (try dsimp only at hSw); go_simp; try with_reducible rfl)
        try simp only [Act.put,Sp1,Sp2,Sp3,Sp4,Sp5,Sp6]
        refine AnyG.takeGC (i:=47) (v:=?_) rfl (by as_aux_lemma => kernel_rfl) (fun _ _ _ h => h) (by first | (simp [Region.wanted,yielded]; done) | simp [Region.wanted,yielded,undef]) ?_ hS ?_
        rotate_left
        ·(intro w' hSw; (try dsimp only at hSw); have Zs:=(Z.bel hSw).sa; have v0:=Zs.c0; have v1:=Zs.c1; have v2:=Zs.c2; have v3:=Zs.c3; have v4:=Zs.c4; have v5:=Zs.c5; dsimp only at v0 v1 v2 v3 v4 v5; rw [HF1.out] at v0; rw [HB1.out] at v1; go_simp; try with_reducible rfl)
        try simp only [Act.put,Sp1,Sp2,Sp3,Sp4,Sp5,Sp6]
        refine AnyG.oneC (i:=48) (by as_aux_lemma => kernel_rfl) rfl (by first | (simp [Region.wanted,yielded]; done) | simp [Region.wanted,yielded,undef]) ?_
        go_simp
        refine (equalSlips_same FA2 f1 fc2 BA2 b1 bc2 FA1 fc1 BA1 bc1 fs1 bs1 d01 d11 F1 B1 _ (by omega) (by omega) HF1.out HB1.out (Z.bel hS).sf (Z.bel hS).sb (Z.bel hS).sa.sf (Z.bel hS).sa.sb).mono ?_
        rintro er u48 ⟨rfl,hp48⟩
        have hT:=hS.trans (hp48.mono hS.size)
        clear hS
        have hS:=hT
        clear hT
        refine Onward.on hS (fun hS2 => ?_)
        clear hS
        have hS:=hS2
        clear hS2
        try simp only [Act.put,Sp1,Sp2,Sp3,Sp4,Sp5,Sp6]
        refine AnyG.takeGC (i:=49) (v:=?_) rfl (by as_aux_lemma => kernel_rfl) (fun _ _ _ h => h) (by first | (simp [Region.wanted,yielded]; done) | simp [Region.wanted,yielded,undef]) ?_ hS ?_
        rotate_left
        ·(intro w' hSw; (try dsimp only at hSw); go_simp; try with_reducible rfl)
        try simp only [Act.put,Sp1,Sp2,Sp3,Sp4,Sp5,Sp6]
        refine AnyG.takeC (i:=50) (v:=?_) rfl (by as_aux_lemma => kernel_rfl) (fun _ _ _ h => h) rfl ?_ hS ?_
        rotate_left
        ·(intro w' hSw; (try dsimp only at hSw); go_simp; try with_reducible rfl)
        try simp only [Act.put,Sp1,Sp2,Sp3,Sp4,Sp5,Sp6]
        refine AnyG.done (by as_aux_lemma => kernel_rfl) ?_ _
        go_simp
        go_wp2_with fail
        go_roundw
        case rel => exact ⟨i + 1,by omega,by go_num,Z.hb.trans (hS.mono Z.hb.size)⟩
        case measure => simp [intOf]; omega
   ·go_wp2_with (first | (go_at_call 14; refine (awake_any _).mono ?_; rintro e x7 ⟨rfl,hq7⟩) | fail)
    go_ret
    exact ⟨rfl,(hBU.trans (hB.mono hBU.size)).trans (hq7.mono ((hBU.trans (hB.mono hBU.size)).size))⟩
end Go.Proofs.Ytgbogdckmfencaa
