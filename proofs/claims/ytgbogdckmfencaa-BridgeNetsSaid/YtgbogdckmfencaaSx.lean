/- The reference's sums. -/
import Derived.Test.YtgbogdckmfencaaSw
set_option linter.unusedSimpArgs false
set_option linter.unusedVariables false
namespace Go.Proofs.Ytgbogdckmfencaa
open Go Go.RowKit
set_option maxRecDepth 100000 in
set_option maxHeartbeats 16000000 in
theorem sums_any (st z0 z1 : Int) (A : Option Addr) (n c : Nat) (es : List Ev) (FA : Option Addr) (fn fc : Nat) (BA : Option Addr) (bn bc : Nat) (fs bs d0 d1 : Int) (F B : List Int) (KA : Option Addr) (KC : Nat) (qk : Nat → Nat) (g : Nat → Nat → Bool) (K : Nat → Int → Bool) (wt : Nat → Int → Int × Int) (w : World) (hn : 1 ≤ n) (hl : es.length = n) (hlog : LogOk st z0 z1 es) (hA : EvsAt w w.heap.size A es) (hfn : fn ≤ 1000) (hbn : bn ≤ 1000) (hf : F.length = fn) (hb : B.length = bn) (hF : Sl w w.heap.size 1 FA (ints F)) (hBs : Sl w w.heap.size 1 BA (ints B)) (hov : overlap F B = false) (hG : Grid w 0 KA n qk g)
  (hK : ∀ i z,mayB g i z = K i z) (hwt : wtc st es F B = wt) :
  Calls Try.prog 101 #[.agg #[.int .i64 st,.int .i64 z0,.int .i64 z1,.slice A n c],.agg #[.slice FA fn fc,.slice BA bn bc,.int .i64 fs,.int .i64 bs,.int .i64 d0,.int .i64 d1],.agg #[.slice KA n KC]] w fun r w' => r = .returned (.agg #[.int .i64 (smA z0 z1 es K wt n).1,.int .i64 (smA z0 z1 es K wt n).2]) ∧ Below w.heap.size w w':=by
 have hn14 : n ≤ 14:=by rw [← hl]; exact hlog.n
 have hwb : ∀ i z,Bd 100000 (wt i z):=fun i z => by rw [← hwt]; exact wtc_bd hlog F B i z
 have hKb : ∀ i z,K i z = true → -200 ≤ z ∧ z ≤ 200:=fun i z h => by
  rw [← hK] at h
  unfold mayB at h
  rw [Bool.and_eq_true] at h
  exact of_decide_eq_true h.1
 obtain ⟨S,hS⟩ : ∃ S,smD z0 z1 es K wt = S:=⟨_,rfl⟩
 have hSb : ∀ i z,i < n → Bd 1400000 (S i z):=fun i z hi => by
  have:=smD_bd (z0:=z0) (z1:=z1) (es:=es) (K:=K) hwb i z
  rw [hS] at this
  exact this.mono (by omega)
 obtain ⟨hs1,hs2,hr1,hr2,hr3,-,hev⟩:=hlog
 have hSe : ∀ i e z,es[i]? = some e → S i z = ((cov1 (((rngL (z - e.c1) (z - e.c0)).filter (okS z0 z1 K i)).map (prS z0 z1 es K wt i))).1 + (wt i z).1,(cov1 (((rngL (z - e.c1) (z - e.c0)).filter (okS z0 z1 K i)).map (prS z0 z1 es K wt i))).2 + (wt i z).2):=fun i e z he => by rw [← hS]; exact smD_eq he z
 have hPr : ∀ i y,prS z0 z1 es K wt (i + 1) y = S i y:=fun i y => by rw [← hS]; rfl
 have hsmA : smA z0 z1 es K wt n = cov1 (((rngL (-200) 200).filter (K (n - 1))).map (S (n - 1))):=by rw [← hS]; rfl
 have HEV:=Lib.hid hev
 have HL:=Lib.hid hl
 have HF:=Lib.hid hf
 have HBn:=Lib.hid hb
 have HOV:=Lib.hid hov
 have HK:=Lib.hid hK
 have HKB:=Lib.hid hKb
 have HWT:=Lib.hid hwt
 have HWB:=Lib.hid hwb
 have HSB:=Lib.hid hSb
 have HSE:=Lib.hid hSe
 have HPR:=Lib.hid hPr
 have HSMA:=Lib.hid hsmA
 clear hev hl hf hb hov hK hKb hwt hwb hSb hSe hPr hsmA hS
 have I : QI w st z0 z1 A n c es FA fn fc BA bn bc fs bs d0 d1 F B KA KC qk g (((w.alloc (.cells #[.int .i64 st,.int .i64 z0,.int .i64 z1,.slice A n c] 26)).alloc (.cells #[.slice FA fn fc,.slice BA bn bc,.int .i64 fs,.int .i64 bs,.int .i64 d0,.int .i64 d1] 50)).alloc (.cells #[.slice KA n KC] 96) |>.alloc (.cells #[.int .i64 0,.int .i64 0] 23)) :=
  ⟨((LS.start hA hF hBs).al _).al _,(Bx.at _ _ _ (by simp)).alloc _,Bx.at _ _ _ (by simp),(((hG.alloc _).alloc _).alloc _).alloc _⟩
 obtain ⟨W,hW⟩ : ∃ x,(((w.alloc (.cells #[.int .i64 st,.int .i64 z0,.int .i64 z1,.slice A n c] 26)).alloc (.cells #[.slice FA fn fc,.slice BA bn bc,.int .i64 fs,.int .i64 bs,.int .i64 d0,.int .i64 d1] 50)).alloc (.cells #[.slice KA n KC] 96)).alloc (.cells #[.int .i64 0,.int .i64 0] 23) = x:=⟨_,rfl⟩
 rw [hW] at I
 have HW:=Lib.hid hW
 clear hW hA hF hBs hG
 go_enter Try.func101,Try.ntmps101
 go_upto_region 1 with fail
 rw [HW.out]
 have hmk:=make_rngs
 go_upto_region 3 with fail
 have I0:=I.al (.cells (parr 401 fun _ => (0,0)) 23)
 have kq0 : Bx (W.alloc (.cells (parr 401 fun _ => (0,0)) 23)) W.heap.size 23 (parr 401 (rowS K S 0)):=Bx.new W 23 (parr 401 fun _ => (0,0))
 have hq0 : w.heap.size + 1 + 1 + 1 < W.heap.size:=I.k6.lt
 obtain ⟨W2,hW2⟩ : ∃ x,W.alloc (.cells (parr 401 fun _ => (0,0)) 23) = x:=⟨_,rfl⟩
 obtain ⟨qq,hqq⟩ : ∃ b,W.heap.size = b:=⟨_,rfl⟩
 rw [hW2] at I0 kq0 ⊢
 rw [hqq] at kq0 hq0 ⊢
 clear hW2 hqq I
 go_wp2_with fail
 go_loopw [9,8] (fun v9 v8 wr => ∃ (i q : Nat),i ≤ n ∧ v9 = .int .i64 i ∧ v8 = .slice (some ⟨q,0,none⟩) 401 401 ∧ w.heap.size + 1 + 1 + 1 < q ∧ Bx wr q 23 (parr 401 (rowS K S i)) ∧ QI w st z0 z1 A n c es FA fn fc BA bn bc fs bs d0 d1 F B KA KC qk g wr) (fun v9 _ _ => n - (intOf v9).toNat)
 case atStart => exact ⟨0,qq,by omega,rfl,rfl,hq0,kq0,I0⟩
 case round =>
  clear I0 kq0 hq0
  obtain ⟨w3,rfl⟩ : ∃ x,x = wr:=⟨_,rfl⟩
  obtain ⟨i,q,hi,rfl,rfl,hqw,kq,I⟩:=hrel
  obtain ⟨l0,l1,l2,l3,lf,lz⟩:=I.ls.k1.four
  by_cases hin : i < n
  ·have hie : i < es.length:=by rw [HL.out]; exact hin
   obtain ⟨e,he⟩ : ∃ e,es[i]? = some e:=⟨_,List.getElem?_eq_getElem hie⟩
   have hok:=HEV.out e (List.mem_of_getElem? he)
   have hcb : -200 ≤ e.c0 ∧ e.c0 ≤ e.c1 ∧ e.c1 ≤ 200:=⟨hok.c1,hok.c2,hok.c3⟩
   have hmk:=make_rngs
   go_upto_region 7 with fail
   clear l0 l1 l2 l3 lf lz hmk
   have I4:=I.al (.cells (parr 401 fun _ => (0,0)) 23)
   have kq4:=kq.alloc (.cells (parr 401 fun _ => (0,0)) 23)
   have kq24 : Bx (w3.alloc (.cells (parr 401 fun _ => (0,0)) 23)) w3.heap.size 23 (parr 401 (rowP K S i 0)):=by rw [← rowP_zero]; exact Bx.new w3 23 _
   have hqq2 : q < w3.heap.size:=kq.lt
   obtain ⟨x4,hx4⟩ : ∃ x,w3.alloc (.cells (parr 401 fun _ => (0,0)) 23) = x:=⟨_,rfl⟩
   obtain ⟨q2,hq2⟩ : ∃ b,w3.heap.size = b:=⟨_,rfl⟩
   rw [hx4] at I4 kq4 kq24 ⊢
   rw [hq2] at kq24 hqq2 ⊢
   clear hx4 hq2 I kq
   obtain ⟨l0,l1,l2,l3,lf,lz⟩:=I4.ls.k1.four
   obtain ⟨ad,rfl,hab,-,-,-,v3,v4⟩:=EvsAt.at_ I4.ls.ev hie
   have hge : es[i] = e:=(List.getElem?_eq_some_iff.1 he).2
   rw [hge] at v3 v4
   obtain ⟨ec0,hec0⟩ : ∃ x,e.c0 = x:=⟨_,rfl⟩
   obtain ⟨ec1,hec1⟩ : ∃ x,e.c1 = x:=⟨_,rfl⟩
   rw [hec0] at v3 hcb
   rw [hec1] at v4 hcb
   have HEC:=Lib.hid (And.intro hec0 hec1)
   have HE:=Lib.hid he
   have HOKE:=Lib.hid hok
   clear hec0 hec1 hge he hok hie
   go_upto_region 8 with fail
   clear l0 l1 l2 l3 lf lz v3 v4
   have R5 : RJ w st z0 z1 (some ad) n c es FA fn fc BA bn bc fs bs d0 d1 F B KA KC qk g q (rowS K S i) q2 (rowP K S i 0) x4.heap.size ec0 ec1 (x4.alloc (.cells #[.int .i64 ec0,.int .i64 ec1] 23)):=⟨I4.al _,kq4.alloc _,kq24.alloc _,Bx.new x4 23 #[.int .i64 ec0,.int .i64 ec1]⟩
   have hq2b : q2 < x4.heap.size:=kq24.lt
   obtain ⟨x5,hx5⟩ : ∃ x,x4.alloc (.cells #[.int .i64 ec0,.int .i64 ec1] 23) = x:=⟨_,rfl⟩
   obtain ⟨b11,hb11⟩ : ∃ b,x4.heap.size = b:=⟨_,rfl⟩
   rw [hx5,hb11] at R5
   rw [hx5]
   rw [hb11] at hq2b ⊢
   clear hx5 hb11 I4 kq4 kq24
   obtain ⟨okf,hokf⟩ : ∃ f,okS z0 z1 K i = f:=⟨_,rfl⟩
   obtain ⟨prf,hprf⟩ : ∃ f,prS z0 z1 es K wt i = f:=⟨_,rfl⟩
   have hprb : ∀ y,Bd 1400000 (prf y):=fun y => by rw [← hprf]; cases i with | zero => (show Bd _ ((0 : Int),(0 : Int)); unfold Bd; simp) | succ i1 => (rw [HPR.out]; exact HSB.out i1 y (by omega))
   have hsi : ∀ z,S i z = ((cov1 (((rngL (z - ec1) (z - ec0)).filter okf).map prf)).1 + (wt i z).1,(cov1 (((rngL (z - ec1) (z - ec0)).filter okf).map prf)).2 + (wt i z).2):=fun z => by rw [HSE.out i e z HE.out,HEC.out.1,HEC.out.2,hokf,hprf]
   have HOKF:=Lib.hid hokf
   have HPRF:=Lib.hid hprf
   have HPRB:=Lib.hid hprb
   have HSI:=Lib.hid hsi
   clear hokf hprf hprb hsi
   go_wp2_with fail
   go_loopw [12] (fun v12 wr => ∃ (p : Nat) (z : Int),p ≤ 401 ∧ v12 = .int .i64 z ∧ Hid (z = (p : Int) - 200) ∧ RJ w st z0 z1 (some ad) n c es FA fn fc BA bn bc fs bs d0 d1 F B KA KC qk g q (rowS K S i) q2 (rowP K S i p) b11 ec0 ec1 wr) (fun v12 _ => (401 - (intOf v12 + 200)).toNat)
   case atStart => exact ⟨0,-200,by omega,rfl,Lib.hid (by omega),R5⟩
   case round =>
    clear R5
    obtain ⟨w4,rfl⟩ : ∃ x,x = wr:=⟨_,rfl⟩
    obtain ⟨p,z,hp,rfl,hz,R⟩:=hrel
    have hzb : z + 200 ≤ p ∧ p ≤ z + 200:=by have:=hz.out; omega
    by_cases hp4 : z ≤ 200
    ·have hmay:=may_any 0 KA n KC qk g i z w4 R.qi.gr hn14 hin (by omega) (by omega)
     rw [HK.out] at hmay
     obtain ⟨kk,hkk⟩ : ∃ x,K i z = x:=⟨_,rfl⟩
     rw [hkk] at hmay
     have HKK:=Lib.hid hkk
     have HM:=Lib.hid hmay
     clear hkk hmay
     obtain ⟨a0,af,az⟩:=R.qi.k5.one
     cases kk
     ·go_wp2_with (first | (go_at_call 85; refine HM.out.mono ?_; rintro r y1 ⟨rfl,hq⟩) | fail)
      go_roundw
      case rel => exact ⟨p + 1,z + 1,by omega,rfl,Lib.hid (by have:=hz.out; omega),by rw [← rowP_skip (by rw [← hz.out]; exact HKK.out)]; exact R.bel hq⟩
      case measure => simp [intOf]; omega
     ·have hzl:=HKB.out i z HKK.out
      go_upto_region 14 with (first | (go_at_call 85; refine HM.out.mono ?_; rintro r y1 ⟨rfl,hq⟩) | fail)
      clear a0 af az
      have R5:=(R.bel hq).al (.cells #[.int .i64 0,.int .i64 0] 23)
      have k14:=Bx.new y1 23 #[.int .i64 0,.int .i64 0]
      have hb1 : b11 < y1.heap.size:=(R.k11.call hq).lt
      obtain ⟨x5,hx5⟩ : ∃ x,y1.alloc (.cells #[.int .i64 0,.int .i64 0] 23) = x:=⟨_,rfl⟩
      obtain ⟨b14,hb14⟩ : ∃ b,y1.heap.size = b:=⟨_,rfl⟩
      rw [hx5] at R5 k14 ⊢
      rw [hb14] at k14 hb1 ⊢
      clear hx5 hb14 R hq HM
      obtain ⟨r0,r1,rf,rz⟩:=R5.k11.two
      go_wp2_with fail
      clear r0 r1 rf rz
      go_loopw [15,13] (fun v15 v13 wr => ∃ (j : Nat) (y b1 b2 : Int),v15 = .int .i64 y ∧ Hid (y = z - ec1 + j) ∧ y ≤ z - ec0 + 1 ∧ v13 = .bool (!(((upTo (z - ec1) j).filter okf).map prf).isEmpty) ∧ Hid ((b1,b2) = cov1 (((upTo (z - ec1) j).filter okf).map prf)) ∧ (-1400000 ≤ b1 ∧ b1 ≤ 1400000 ∧ -1400000 ≤ b2 ∧ b2 ≤ 1400000) ∧ Bx wr b14 23 #[.int .i64 b1,.int .i64 b2] ∧ RJ w st z0 z1 (some ad) n c es FA fn fc BA bn bc fs bs d0 d1 F B KA KC qk g q (rowS K S i) q2 (rowP K S i p) b11 ec0 ec1 wr) (fun v15 _ _ => (z - ec0 + 1 - intOf v15).toNat)
      case atStart => exact ⟨0,z - ec1,0,0,rfl,Lib.hid (by omega),by omega,by simp [upTo],Lib.hid (by simp [upTo,cov1]),by omega,k14,R5⟩
      case round =>
       clear R5 k14
       obtain ⟨w6,rfl⟩ : ∃ x,x = wr:=⟨_,rfl⟩
       obtain ⟨j,y,b1,b2,rfl,hy,hyc,rfl,hb,hbb,k14,R⟩:=hrel
       obtain ⟨r0,r1,rf,rz⟩:=R.k11.two
       have hyl : z - ec1 ≤ y:=by have:=hy.out; omega
       have hb:=hb.out
       obtain ⟨LJ,hLJ⟩ : ∃ l,((upTo (z - ec1) j).filter okf).map prf = l:=⟨_,rfl⟩
       rw [hLJ] at hb ⊢
       have HB:=Lib.hid hb
       have HLJ:=Lib.hid hLJ
       clear hb hLJ
       obtain ⟨sb,hsb⟩ : ∃ b,(!LJ.isEmpty) = b:=⟨_,rfl⟩
       rw [hsb]
       have HSB2:=Lib.hid hsb
       clear hsb
       by_cases hyz : y ≤ z - ec0
       ·have hnx : Hid (((upTo (z - ec1) (j + 1)).filter okf).map prf = LJ ++ (if okf y = true then [prf y] else [])):=by unfold Hid; rw [filt_next,HLJ.out,show z - ec1 + (j : Int) = y by have:=hy.out; omega]
        go_upto_region 18 with fail
        clear r0 r1 rf rz
        have R7:=R.al (.cells #[.int .i64 0,.int .i64 0] 23)
        have k147:=k14.alloc (.cells #[.int .i64 0,.int .i64 0] 23)
        have k16:=Bx.new w6 23 #[.int .i64 0,.int .i64 0]
        have hb16 : b14 < w6.heap.size:=k14.lt
        obtain ⟨x7,hx7⟩ : ∃ x,w6.alloc (.cells #[.int .i64 0,.int .i64 0] 23) = x:=⟨_,rfl⟩
        obtain ⟨b16,hb16e⟩ : ∃ b,w6.heap.size = b:=⟨_,rfl⟩
        rw [hx7] at R7 k147 k16 ⊢
        rw [hb16e] at k16 hb16 ⊢
        clear hx7 hb16e R k14
        obtain ⟨ov,hov⟩ : ∃ x,okf y = x:=⟨_,rfl⟩
        have hnx2 : Hid (((upTo (z - ec1) (j + 1)).filter okf).map prf = LJ ++ (if ov = true then [prf y] else [])):=by unfold Hid; rw [hnx.out,hov]
        have HNX:=hnx2
        clear hnx hnx2
        have HOVY:=Lib.hid hov
        clear hov
        by_cases hi0 : i = 0
        ·have e1 : btwB y z0 z1 = ov:=by rw [← HOVY.out,← HOKF.out,hi0]; unfold btwB okS; exact Bool.decide_and _ _
         have hj1 : ((i : Int) == 0) = true:=by rw [beq_iff_eq]; omega
         have hj3 : decide (0 < i) = false:=by rw [decide_eq_false_iff_not]; omega
         have hj4 : decide ((0 : Int) < (i : Int)) = false:=by rw [decide_eq_false_iff_not]; omega
         have hpy : Hid (prf y = (0,0)):=by unfold Hid; rw [← HPRF.out,hi0]; rfl
         have HI0:=Lib.hid hi0
         clear hi0
         obtain ⟨l0,l1,l2,l3,lf,lz⟩:=R7.qi.ls.k1.four
         cases ov
         ·go_wp2_with (first | (go_at_call 64; refine (between_b _ _ _ _).mono ?_; rintro er y1 ⟨rfl,rfl⟩; rw [e1]) | fail)
          go_roundw
          case rel => exact ⟨j + 1,y + 1,b1,b2,rfl,Lib.hid (by have:=hy.out; omega),by omega,by rw [HNX.out]; simp [HSB2.out],Lib.hid (by rw [HNX.out]; simp; exact HB.out),by omega,k147,R7⟩
          case measure => simp [intOf]; omega
         ·go_upto_region 21 with (first | (go_at_call 64; refine (between_b _ _ _ _).mono ?_; rintro er y1 ⟨rfl,rfl⟩; rw [e1]) | fail)
          clear l0 l1 l2 l3 lf lz
          obtain ⟨x9,hx9⟩ : ∃ x,x = x7:=⟨_,rfl⟩
          rw [← hx9] at R7 k147 k16 ⊢
          clear hx9
          have RT:=R7
          have kT14:=k147
          have kT16:=k16
          clear R7 k147 k16
          obtain ⟨m0,m1,mf,mz⟩:=kT14.two
          obtain ⟨n0,n1,nf,nz⟩:=kT16.two
          cases sb
          ·have hLe : LJ = []:=by have:=HSB2.out; simpa using this
           subst hLe
           go_upto_region 23 with fail
           clear m0 m1 mf mz n0 n1 nf nz
           have RA : RJ w st z0 z1 (some ad) n c es FA fn fc BA bn bc fs bs d0 d1 F B KA KC qk g q (rowS K S i) q2 (rowP K S i p) b11 ec0 ec1 ((x9.setCell ⟨b14,0,none⟩ (.int .i64 0)).setCell ⟨b14,1,none⟩ (.int .i64 0)):=⟨(RT.qi.far kT14 (by omega) 0 _).far (kT14.set_ 0 _) (by omega) 1 _,(RT.kq.far (by show q ≠ b14; omega) _).far (by show q ≠ b14; omega) _,(RT.kq2.far (by show q2 ≠ b14; omega) _).far (by show q2 ≠ b14; omega) _,(RT.k11.far (by show b11 ≠ b14; omega) _).far (by show b11 ≠ b14; omega) _⟩
           have kA14 : Bx ((x9.setCell ⟨b14,0,none⟩ (.int .i64 0)).setCell ⟨b14,1,none⟩ (.int .i64 0)) b14 23 #[.int .i64 0,.int .i64 0]:=by have:=(kT14.set_ 0 (.int .i64 0)).set_ 1 (.int .i64 0); simpa using this
           have kA16:=(kT16.far (p:=⟨b14,0,none⟩) (by show b16 ≠ b14; omega) (.int .i64 0)).far (p:=⟨b14,1,none⟩) (by show b16 ≠ b14; omega) (.int .i64 0)
           obtain ⟨xA,hxA⟩ : ∃ x,((x9.setCell ⟨b14,0,none⟩ (.int .i64 0)).setCell ⟨b14,1,none⟩ (.int .i64 0)) = x:=⟨_,rfl⟩
           rw [hxA] at RA kA14 kA16 ⊢
           clear hxA RT kT14 kT16
           refine AnyG.startC (by kernel_rfl) ?_
           refine AnyG.takeP (i:=0) (v:=?_) rfl (by kernel_rfl) (fun _ _ _ h => h) rfl ?_ ?_
           rotate_left
           ·(intro w'; go_simp; try with_reducible rfl)
           try simp only [Act.put,Sp1,Sp2,Sp3,Sp4,Sp5,Sp6]
           refine AnyG.takeP (i:=2) (v:=?_) rfl (by kernel_rfl) (fun _ _ _ h => h) rfl ?_ ?_
           rotate_left
           ·(intro w'; go_simp; try with_reducible rfl)
           try simp only [Act.put,Sp1,Sp2,Sp3,Sp4,Sp5,Sp6]
           refine AnyG.takeP (i:=5) (v:=?_) rfl (by kernel_rfl) (fun _ _ _ h => h) rfl ?_ ?_
           rotate_left
           ·(intro w'; go_simp; try with_reducible rfl)
           try simp only [Act.put,Sp1,Sp2,Sp3,Sp4,Sp5,Sp6]
           refine AnyG.takeP (i:=7) (v:=?_) rfl (by kernel_rfl) (fun _ _ _ h => h) rfl ?_ ?_
           rotate_left
           ·(intro w'; go_simp; try with_reducible rfl)
           try simp only [Act.put,Sp1,Sp2,Sp3,Sp4,Sp5,Sp6]
           refine AnyO.enter [(11,(fun w' : World => Below xA.heap.size xA w')),(13,(fun w' : World => Bx w' b16 23 #[.int .i64 0,.int .i64 0]))] (Owe.two (.inr (Below.drew (Below.refl _ _))) (.inr kA16.drew)) (fun hO => ?_)
           refine AnyO.take 0 (i:=1) (v:=?_) rfl rfl (by kernel_rfl) (fun _ _ _ h => h) (by first | rfl | (simp [Region.wanted,yielded]; done) | simp [Region.wanted,yielded,undef]) ?_ hO ?_
           rotate_left
           ·(intro w' hSw; (try dsimp only at hSw); obtain ⟨m0,m1,mf,mz⟩:=(kA14.call hSw).two; go_simp; try with_reducible rfl)
           clear hO
           intro hO
           try simp only [Act.put,Sp1,Sp2,Sp3,Sp4,Sp5,Sp6]
           refine AnyO.take 0 (i:=3) (v:=?_) rfl rfl (by kernel_rfl) (fun _ _ _ h => h) (by first | rfl | (simp [Region.wanted,yielded]; done) | simp [Region.wanted,yielded,undef]) ?_ hO ?_
           rotate_left
           ·(intro w' hSw; (try dsimp only at hSw); obtain ⟨n0,n1,nf,nz⟩:=(kA16.call hSw).two; go_simp; try with_reducible rfl)
           clear hO
           intro hO
           try simp only [Act.put,Sp1,Sp2,Sp3,Sp4,Sp5,Sp6]
           refine AnyO.take 0 (i:=4) (v:=?_) rfl rfl (by kernel_rfl) (fun _ _ _ h => h) (by first | rfl | (simp [Region.wanted,yielded]; done) | simp [Region.wanted,yielded,undef]) ?_ hO ?_
           rotate_left
           ·(intro w' hSw; (try dsimp only at hSw); go_simp; try with_reducible rfl)
           clear hO
           intro hO
           try simp only [Act.put,Sp1,Sp2,Sp3,Sp4,Sp5,Sp6]
           refine AnyO.take 0 (i:=6) (v:=?_) rfl rfl (by kernel_rfl) (fun _ _ _ h => h) (by first | rfl | (simp [Region.wanted,yielded]; done) | simp [Region.wanted,yielded,undef]) ?_ hO ?_
           rotate_left
           ·(intro w' hSw; (try dsimp only at hSw); obtain ⟨m0,m1,mf,mz⟩:=(kA14.call hSw).two; go_simp; try with_reducible rfl)
           clear hO
           intro hO
           try simp only [Act.put,Sp1,Sp2,Sp3,Sp4,Sp5,Sp6]
           refine AnyO.take 1 (i:=8) (v:=?_) rfl rfl (by kernel_rfl) (fun _ _ _ h => h) (by first | rfl | (simp [Region.wanted,yielded]; done) | simp [Region.wanted,yielded,undef]) ?_ hO ?_
           rotate_left
           ·(intro w' hSw; (try dsimp only at hSw); obtain ⟨n0,n1,nf,nz⟩:=hSw.two; go_simp; try with_reducible rfl)
           clear hO
           intro hO
           try simp only [Act.put,Sp1,Sp2,Sp3,Sp4,Sp5,Sp6]
           refine AnyO.take 1 (i:=9) (v:=?_) rfl rfl (by kernel_rfl) (fun _ _ _ h => h) (by first | rfl | (simp [Region.wanted,yielded]; done) | simp [Region.wanted,yielded,undef]) ?_ hO ?_
           rotate_left
           ·(intro w' hSw; (try dsimp only at hSw); go_simp; try with_reducible rfl)
           clear hO
           intro hO
           try simp only [Act.put,Sp1,Sp2,Sp3,Sp4,Sp5,Sp6]
           refine AnyO.take 1 (i:=10) (v:=?_) rfl rfl (by kernel_rfl) (fun _ _ _ h => h) (by first | rfl | (simp [Region.wanted,yielded]; done) | simp [Region.wanted,yielded,undef]) ?_ hO ?_
           rotate_left
           ·(intro w' hSw; (try dsimp only at hSw); go_simp; try with_reducible rfl)
           clear hO
           intro hO
           try simp only [Act.put,Sp1,Sp2,Sp3,Sp4,Sp5,Sp6]
           refine AnyO.one (i:=11) (by kernel_rfl) rfl (by first | rfl | (simp [Region.wanted,yielded]; done) | simp [Region.wanted,yielded,undef]) ?_
           clear hO
           obtain ⟨m0,m1,mf,mz⟩:=kA14.drew.two
           obtain ⟨m0b,m1b,mfb,mzb⟩:=kA14.two
           go_simp
           clear m0 m1 mf mz m0b m1b mfb mzb
           refine OnwardO.on (Owe.two (.inl (by kernel_rfl)) (.inr (kA16.far (p:=⟨b14,0,none⟩) (by show b16 ≠ b14; omega) _).drew)) (fun hO => ?_)
           try simp only [Act.put,Sp1,Sp2,Sp3,Sp4,Sp5,Sp6]
           refine AnyO.one (i:=12) (by kernel_rfl) rfl (by first | rfl | (simp [Region.wanted,yielded]; done) | simp [Region.wanted,yielded,undef]) ?_
           clear hO
           go_simp
           refine OnwardO.on (Owe.two (.inl (by kernel_rfl)) (.inr (kA16.far (p:=⟨b14,0,none⟩) (by show b16 ≠ b14; omega) _).drew)) (fun hO => ?_)
           try simp only [Act.put,Sp1,Sp2,Sp3,Sp4,Sp5,Sp6]
           refine AnyO.one (i:=13) (by kernel_rfl) rfl (by first | rfl | (simp [Region.wanted,yielded]; done) | simp [Region.wanted,yielded,undef]) ?_
           clear hO
           obtain ⟨m0b,m1b,mfb,mzb⟩:=kA14.two
           go_simp
           clear m0b m1b mfb mzb
           refine OnwardO.on (Owe.two (.inl (by kernel_rfl)) (.inl (by kernel_rfl))) (fun hO => ?_)
           try simp only [Act.put,Sp1,Sp2,Sp3,Sp4,Sp5,Sp6]
           refine AnyO.one (i:=14) (by kernel_rfl) rfl (by first | rfl | (simp [Region.wanted,yielded]; done) | simp [Region.wanted,yielded,undef]) ?_
           clear hO
           go_simp
           refine OnwardO.on (Owe.two (.inl (by kernel_rfl)) (.inl (by kernel_rfl))) (fun hO => ?_)
           try simp only [Act.put,Sp1,Sp2,Sp3,Sp4,Sp5,Sp6]
           refine AnyO.done (by kernel_rfl) ?_ _
           clear hO
           go_simp
           go_wp2_with fail
           go_roundw
           case rel => exact ⟨j + 1,y + 1,min 0 0,max 0 0,rfl,Lib.hid (by have:=hy.out; omega),by omega,by rw [HNX.out]; simp,Lib.hid (by rw [HNX.out]; simp only [eq_self_iff_true,if_true]; rw [Int.min_self,Int.max_self]; symm; show cov1 [prf y] = _; unfold cov1; rw [hpy.out]; rfl),by omega,by have h:=((kA14.set_ 0 (.int .i64 (min 0 0))).set_ 1 (.int .i64 (max 0 0))).drew; simpa [min_if,min_if2,min_if3,max_if,max_if2] using h,(show RJ w st z0 z1 (some ad) n c es FA fn fc BA bn bc fs bs d0 d1 F B KA KC qk g q (rowS K S i) q2 (rowP K S i p) b11 ec0 ec1 _ from ⟨((RA.qi.far kA14 (by omega) 0 _).far (kA14.set_ 0 _) (by omega) 1 _).bel (Below.drew (Below.refl _ _)),((RA.kq.far (by show q ≠ b14; omega) _).far (by show q ≠ b14; omega) _).drew,((RA.kq2.far (by show q2 ≠ b14; omega) _).far (by show q2 ≠ b14; omega) _).drew,((RA.k11.far (by show b11 ≠ b14; omega) _).far (by show b11 ≠ b14; omega) _).drew⟩)⟩
           case measure => simp [intOf]; omega
          ·have hLn : LJ ≠ []:=by intro h; have:=HSB2.out; rw [h] at this; simp at this
           go_upto_region 23 with fail
           clear m0 m1 mf mz n0 n1 nf nz
           obtain ⟨xA,hxA⟩ : ∃ x,x = x9:=⟨_,rfl⟩
           have RA:=RT
           have kA14:=kT14
           have kA16:=kT16
           rw [← hxA] at RA kA14 kA16 ⊢
           clear hxA RT kT14 kT16
           refine AnyG.startC (by kernel_rfl) ?_
           refine AnyG.takeP (i:=0) (v:=?_) rfl (by kernel_rfl) (fun _ _ _ h => h) rfl ?_ ?_
           rotate_left
           ·(intro w'; go_simp; try with_reducible rfl)
           try simp only [Act.put,Sp1,Sp2,Sp3,Sp4,Sp5,Sp6]
           refine AnyG.takeP (i:=2) (v:=?_) rfl (by kernel_rfl) (fun _ _ _ h => h) rfl ?_ ?_
           rotate_left
           ·(intro w'; go_simp; try with_reducible rfl)
           try simp only [Act.put,Sp1,Sp2,Sp3,Sp4,Sp5,Sp6]
           refine AnyG.takeP (i:=5) (v:=?_) rfl (by kernel_rfl) (fun _ _ _ h => h) rfl ?_ ?_
           rotate_left
           ·(intro w'; go_simp; try with_reducible rfl)
           try simp only [Act.put,Sp1,Sp2,Sp3,Sp4,Sp5,Sp6]
           refine AnyG.takeP (i:=7) (v:=?_) rfl (by kernel_rfl) (fun _ _ _ h => h) rfl ?_ ?_
           rotate_left
           ·(intro w'; go_simp; try with_reducible rfl)
           try simp only [Act.put,Sp1,Sp2,Sp3,Sp4,Sp5,Sp6]
           refine AnyO.enter [(11,(fun w' : World => Below xA.heap.size xA w')),(13,(fun w' : World => Bx w' b16 23 #[.int .i64 0,.int .i64 0]))] (Owe.two (.inr (Below.drew (Below.refl _ _))) (.inr kA16.drew)) (fun hO => ?_)
           refine AnyO.take 0 (i:=1) (v:=?_) rfl rfl (by kernel_rfl) (fun _ _ _ h => h) (by first | rfl | (simp [Region.wanted,yielded]; done) | simp [Region.wanted,yielded,undef]) ?_ hO ?_
           rotate_left
           ·(intro w' hSw; (try dsimp only at hSw); obtain ⟨m0,m1,mf,mz⟩:=(kA14.call hSw).two; go_simp; try with_reducible rfl)
           clear hO
           intro hO
           try simp only [Act.put,Sp1,Sp2,Sp3,Sp4,Sp5,Sp6]
           refine AnyO.take 0 (i:=3) (v:=?_) rfl rfl (by kernel_rfl) (fun _ _ _ h => h) (by first | rfl | (simp [Region.wanted,yielded]; done) | simp [Region.wanted,yielded,undef]) ?_ hO ?_
           rotate_left
           ·(intro w' hSw; (try dsimp only at hSw); obtain ⟨n0,n1,nf,nz⟩:=(kA16.call hSw).two; go_simp; try with_reducible rfl)
           clear hO
           intro hO
           try simp only [Act.put,Sp1,Sp2,Sp3,Sp4,Sp5,Sp6]
           refine AnyO.take 0 (i:=4) (v:=?_) rfl rfl (by kernel_rfl) (fun _ _ _ h => h) (by first | rfl | (simp [Region.wanted,yielded]; done) | simp [Region.wanted,yielded,undef]) ?_ hO ?_
           rotate_left
           ·(intro w' hSw; (try dsimp only at hSw); go_simp; try with_reducible rfl)
           clear hO
           intro hO
           try simp only [Act.put,Sp1,Sp2,Sp3,Sp4,Sp5,Sp6]
           refine AnyO.take 0 (i:=6) (v:=?_) rfl rfl (by kernel_rfl) (fun _ _ _ h => h) (by first | rfl | (simp [Region.wanted,yielded]; done) | simp [Region.wanted,yielded,undef]) ?_ hO ?_
           rotate_left
           ·(intro w' hSw; (try dsimp only at hSw); obtain ⟨m0,m1,mf,mz⟩:=(kA14.call hSw).two; go_simp; try with_reducible rfl)
           clear hO
           intro hO
           try simp only [Act.put,Sp1,Sp2,Sp3,Sp4,Sp5,Sp6]
           refine AnyO.take 1 (i:=8) (v:=?_) rfl rfl (by kernel_rfl) (fun _ _ _ h => h) (by first | rfl | (simp [Region.wanted,yielded]; done) | simp [Region.wanted,yielded,undef]) ?_ hO ?_
           rotate_left
           ·(intro w' hSw; (try dsimp only at hSw); obtain ⟨n0,n1,nf,nz⟩:=hSw.two; go_simp; try with_reducible rfl)
           clear hO
           intro hO
           try simp only [Act.put,Sp1,Sp2,Sp3,Sp4,Sp5,Sp6]
           refine AnyO.take 1 (i:=9) (v:=?_) rfl rfl (by kernel_rfl) (fun _ _ _ h => h) (by first | rfl | (simp [Region.wanted,yielded]; done) | simp [Region.wanted,yielded,undef]) ?_ hO ?_
           rotate_left
           ·(intro w' hSw; (try dsimp only at hSw); go_simp; try with_reducible rfl)
           clear hO
           intro hO
           try simp only [Act.put,Sp1,Sp2,Sp3,Sp4,Sp5,Sp6]
           refine AnyO.take 1 (i:=10) (v:=?_) rfl rfl (by kernel_rfl) (fun _ _ _ h => h) (by first | rfl | (simp [Region.wanted,yielded]; done) | simp [Region.wanted,yielded,undef]) ?_ hO ?_
           rotate_left
           ·(intro w' hSw; (try dsimp only at hSw); go_simp; try with_reducible rfl)
           clear hO
           intro hO
           try simp only [Act.put,Sp1,Sp2,Sp3,Sp4,Sp5,Sp6]
           refine AnyO.one (i:=11) (by kernel_rfl) rfl (by first | rfl | (simp [Region.wanted,yielded]; done) | simp [Region.wanted,yielded,undef]) ?_
           clear hO
           obtain ⟨m0,m1,mf,mz⟩:=kA14.drew.two
           obtain ⟨m0b,m1b,mfb,mzb⟩:=kA14.two
           go_simp
           clear m0 m1 mf mz m0b m1b mfb mzb
           refine OnwardO.on (Owe.two (.inl (by kernel_rfl)) (.inr (kA16.far (p:=⟨b14,0,none⟩) (by show b16 ≠ b14; omega) _).drew)) (fun hO => ?_)
           try simp only [Act.put,Sp1,Sp2,Sp3,Sp4,Sp5,Sp6]
           refine AnyO.one (i:=12) (by kernel_rfl) rfl (by first | rfl | (simp [Region.wanted,yielded]; done) | simp [Region.wanted,yielded,undef]) ?_
           clear hO
           go_simp
           refine OnwardO.on (Owe.two (.inl (by kernel_rfl)) (.inr (kA16.far (p:=⟨b14,0,none⟩) (by show b16 ≠ b14; omega) _).drew)) (fun hO => ?_)
           try simp only [Act.put,Sp1,Sp2,Sp3,Sp4,Sp5,Sp6]
           refine AnyO.one (i:=13) (by kernel_rfl) rfl (by first | rfl | (simp [Region.wanted,yielded]; done) | simp [Region.wanted,yielded,undef]) ?_
           clear hO
           obtain ⟨m0b,m1b,mfb,mzb⟩:=kA14.two
           go_simp
           clear m0b m1b mfb mzb
           refine OnwardO.on (Owe.two (.inl (by kernel_rfl)) (.inl (by kernel_rfl))) (fun hO => ?_)
           try simp only [Act.put,Sp1,Sp2,Sp3,Sp4,Sp5,Sp6]
           refine AnyO.one (i:=14) (by kernel_rfl) rfl (by first | rfl | (simp [Region.wanted,yielded]; done) | simp [Region.wanted,yielded,undef]) ?_
           clear hO
           go_simp
           refine OnwardO.on (Owe.two (.inl (by kernel_rfl)) (.inl (by kernel_rfl))) (fun hO => ?_)
           try simp only [Act.put,Sp1,Sp2,Sp3,Sp4,Sp5,Sp6]
           refine AnyO.done (by kernel_rfl) ?_ _
           clear hO
           go_simp
           go_wp2_with fail
           go_roundw
           case rel => exact ⟨j + 1,y + 1,min b1 0,max b2 0,rfl,Lib.hid (by have:=hy.out; omega),by omega,by rw [HNX.out]; simp,Lib.hid (by rw [HNX.out]; simp only [eq_self_iff_true,if_true]; symm; rw [cov1_snoc _ _ hLn,← HB.out,hpy.out]; rfl),by omega,by have h:=((kA14.set_ 0 (.int .i64 (min b1 0))).set_ 1 (.int .i64 (max b2 0))).drew; simpa [min_if,min_if2,min_if3,max_if,max_if2] using h,(show RJ w st z0 z1 (some ad) n c es FA fn fc BA bn bc fs bs d0 d1 F B KA KC qk g q (rowS K S i) q2 (rowP K S i p) b11 ec0 ec1 _ from ⟨((RA.qi.far kA14 (by omega) 0 _).far (kA14.set_ 0 _) (by omega) 1 _).bel (Below.drew (Below.refl _ _)),((RA.kq.far (by show q ≠ b14; omega) _).far (by show q ≠ b14; omega) _).drew,((RA.kq2.far (by show q2 ≠ b14; omega) _).far (by show q2 ≠ b14; omega) _).drew,((RA.k11.far (by show b11 ≠ b14; omega) _).far (by show b11 ≠ b14; omega) _).drew⟩)⟩
           case measure => simp [intOf]; omega
        ·obtain ⟨i1,hi1⟩ : ∃ r,i = r + 1:=⟨i - 1,by omega⟩
         have e1 : mayB g i1 y = ov:=by rw [HK.out,← HOVY.out,← HOKF.out,hi1]; rfl
         have him1 : i1 < n:=by omega
         have hj1 : ((i : Int) == 0) = false:=by rw [beq_eq_false_iff_ne]; omega
         have hj2 : (0 : Int) < (i : Int):=by omega
         have hj3 : 0 < i:=by omega
         obtain ⟨a0,af,az⟩:=R7.qi.k5.one
         have hwi2 : (i : Int) - 1 = (i1 : Int):=by omega
         have hwi : IntKind.i64.wrap ((i : Int) - 1) = (i1 : Int):=by rw [hwi2]; exact IntWalk.i64_in _ (by omega)
         have hpy : Hid (prf y = S i1 y):=by unfold Hid; rw [← HPRF.out,hi1]; exact HPR.out i1 y
         have hrw : Hid (∀ p1 : Nat,(p1 : Int) - 200 = y → ov = true → rowS K S i p1 = prf y):=by
          unfold Hid
          intro p1 h1 h2
          rw [hpy.out,hi1]
          show (if K i1 ((p1 : Int) - 200) = true then S i1 ((p1 : Int) - 200) else (0,0)) = S i1 y
          rw [h1,if_pos (by rw [← HK.out,e1]; exact h2)]
         have HI1:=Lib.hid hi1
         have HKY : Hid (ov = true → -200 ≤ y ∧ y ≤ 200):=by
          unfold Hid
          intro h
          exact HKB.out i1 y (by rw [← HK.out,e1]; exact h)
         clear hi1
         have hmay:=may_any 0 KA n KC qk g i1 y x7 R7.qi.gr hn14 him1 (by omega) (by omega)
         rw [e1] at hmay
         have HM:=Lib.hid hmay
         clear hmay
         cases ov
         ·go_wp2_with (first | (go_at_call 85; refine HM.out.mono ?_; rintro er y8 ⟨rfl,hq8⟩) | fail)
          go_roundw
          case rel => exact ⟨j + 1,y + 1,b1,b2,rfl,Lib.hid (by have:=hy.out; omega),by omega,by rw [HNX.out]; simp [HSB2.out],Lib.hid (by rw [HNX.out]; simp; exact HB.out),by omega,k147.call hq8,R7.bel hq8⟩
          case measure => simp [intOf]; omega
         ·go_upto_region 20 with (first | (go_at_call 85; refine HM.out.mono ?_; rintro er y8 ⟨rfl,hq8⟩) | fail)
          clear a0 af az
          have R8:=R7.bel hq8
          have k148:=k147.call hq8
          have k168:=k16.call hq8
          have hyl2:=HKY.out (by trivial)
          clear R7 k147 k16 HM hq8
          obtain ⟨p1,hp1⟩ : ∃ p1 : Nat,y + 200 = p1:=⟨(y + 200).toNat,by omega⟩
          have hp14 : p1 < 401:=by omega
          have hw1 : IntKind.i64.wrap (y + 200) = (p1 : Int):=by rw [hp1]; exact IntWalk.i64_in _ (by omega)
          have hpy2:=hrw.out p1 (by omega) (by trivial)
          have c0 : y8.cell? ⟨q,p1 * 2,none⟩ = some (.int .i64 (prf y).1):=by rw [R8.kq.cell,parr_fst 401 _ hp14 rfl,hpy2]
          have c1 : y8.cell? ⟨q,p1 * 2 + 1,none⟩ = some (.int .i64 (prf y).2):=by rw [R8.kq.cell,parr_snd 401 _ hp14 rfl,hpy2]
          have hxb:=HPRB.out y
          obtain ⟨x1,hx1⟩ : ∃ x,(prf y).1 = x:=⟨_,rfl⟩
          obtain ⟨x2,hx2⟩ : ∃ x,(prf y).2 = x:=⟨_,rfl⟩
          unfold Bd at hxb
          rw [hx1] at c0 hxb
          rw [hx2] at c1 hxb
          have hpx : Hid (prf y = (x1,x2)):=by unfold Hid; rw [← hx1,← hx2]
          have hpy:=hpx
          clear hpx hx1 hx2 hpy2 hrw
          obtain ⟨n0,n1,nf,nz⟩:=k168.two
          have hqz:=R8.kq.lt
          go_upto_region 21 with fail
          clear n0 n1 nf nz c0 c1
          have R9:=(R8.far k168 (by omega) (by omega) (by omega) (by omega) 0 (.int .i64 x1)).far (k168.set_ 0 (.int .i64 x1)) (by omega) (by omega) (by omega) (by omega) 1 (.int .i64 x2)
          have k149:=(k148.far (p:=⟨b16,0,none⟩) (by show b14 ≠ b16; omega) (.int .i64 x1)).far (p:=⟨b16,1,none⟩) (by show b14 ≠ b16; omega) (.int .i64 x2)
          have k169 : Bx ((y8.setCell ⟨b16,0,none⟩ (.int .i64 x1)).setCell ⟨b16,1,none⟩ (.int .i64 x2)) b16 23 #[.int .i64 x1,.int .i64 x2]:=by have:=(k168.set_ 0 (.int .i64 x1)).set_ 1 (.int .i64 x2); simpa using this
          obtain ⟨x9,hx9⟩ : ∃ x,(y8.setCell ⟨b16,0,none⟩ (.int .i64 x1)).setCell ⟨b16,1,none⟩ (.int .i64 x2) = x:=⟨_,rfl⟩
          rw [hx9] at R9 k149 k169 ⊢
          clear hx9 R8 k148 k168
          have RT:=R9
          have kT14:=k149
          have kT16:=k169
          clear R9 k149 k169
          obtain ⟨m0,m1,mf,mz⟩:=kT14.two
          obtain ⟨n0,n1,nf,nz⟩:=kT16.two
          cases sb
          ·have hLe : LJ = []:=by have:=HSB2.out; simpa using this
           subst hLe
           go_upto_region 23 with fail
           clear m0 m1 mf mz n0 n1 nf nz
           have RA : RJ w st z0 z1 (some ad) n c es FA fn fc BA bn bc fs bs d0 d1 F B KA KC qk g q (rowS K S i) q2 (rowP K S i p) b11 ec0 ec1 ((x9.setCell ⟨b14,0,none⟩ (.int .i64 x1)).setCell ⟨b14,1,none⟩ (.int .i64 x2)):=⟨(RT.qi.far kT14 (by omega) 0 _).far (kT14.set_ 0 _) (by omega) 1 _,(RT.kq.far (by show q ≠ b14; omega) _).far (by show q ≠ b14; omega) _,(RT.kq2.far (by show q2 ≠ b14; omega) _).far (by show q2 ≠ b14; omega) _,(RT.k11.far (by show b11 ≠ b14; omega) _).far (by show b11 ≠ b14; omega) _⟩
           have kA14 : Bx ((x9.setCell ⟨b14,0,none⟩ (.int .i64 x1)).setCell ⟨b14,1,none⟩ (.int .i64 x2)) b14 23 #[.int .i64 x1,.int .i64 x2]:=by have:=(kT14.set_ 0 (.int .i64 x1)).set_ 1 (.int .i64 x2); simpa using this
           have kA16:=(kT16.far (p:=⟨b14,0,none⟩) (by show b16 ≠ b14; omega) (.int .i64 x1)).far (p:=⟨b14,1,none⟩) (by show b16 ≠ b14; omega) (.int .i64 x2)
           obtain ⟨xA,hxA⟩ : ∃ x,((x9.setCell ⟨b14,0,none⟩ (.int .i64 x1)).setCell ⟨b14,1,none⟩ (.int .i64 x2)) = x:=⟨_,rfl⟩
           rw [hxA] at RA kA14 kA16 ⊢
           clear hxA RT kT14 kT16
           refine AnyG.startC (by kernel_rfl) ?_
           refine AnyG.takeP (i:=0) (v:=?_) rfl (by kernel_rfl) (fun _ _ _ h => h) rfl ?_ ?_
           rotate_left
           ·(intro w'; go_simp; try with_reducible rfl)
           try simp only [Act.put,Sp1,Sp2,Sp3,Sp4,Sp5,Sp6]
           refine AnyG.takeP (i:=2) (v:=?_) rfl (by kernel_rfl) (fun _ _ _ h => h) rfl ?_ ?_
           rotate_left
           ·(intro w'; go_simp; try with_reducible rfl)
           try simp only [Act.put,Sp1,Sp2,Sp3,Sp4,Sp5,Sp6]
           refine AnyG.takeP (i:=5) (v:=?_) rfl (by kernel_rfl) (fun _ _ _ h => h) rfl ?_ ?_
           rotate_left
           ·(intro w'; go_simp; try with_reducible rfl)
           try simp only [Act.put,Sp1,Sp2,Sp3,Sp4,Sp5,Sp6]
           refine AnyG.takeP (i:=7) (v:=?_) rfl (by kernel_rfl) (fun _ _ _ h => h) rfl ?_ ?_
           rotate_left
           ·(intro w'; go_simp; try with_reducible rfl)
           try simp only [Act.put,Sp1,Sp2,Sp3,Sp4,Sp5,Sp6]
           refine AnyO.enter [(11,(fun w' : World => Below xA.heap.size xA w')),(13,(fun w' : World => Bx w' b16 23 #[.int .i64 x1,.int .i64 x2]))] (Owe.two (.inr (Below.drew (Below.refl _ _))) (.inr kA16.drew)) (fun hO => ?_)
           refine AnyO.take 0 (i:=1) (v:=?_) rfl rfl (by kernel_rfl) (fun _ _ _ h => h) (by first | rfl | (simp [Region.wanted,yielded]; done) | simp [Region.wanted,yielded,undef]) ?_ hO ?_
           rotate_left
           ·(intro w' hSw; (try dsimp only at hSw); obtain ⟨m0,m1,mf,mz⟩:=(kA14.call hSw).two; go_simp; try with_reducible rfl)
           clear hO
           intro hO
           try simp only [Act.put,Sp1,Sp2,Sp3,Sp4,Sp5,Sp6]
           refine AnyO.take 0 (i:=3) (v:=?_) rfl rfl (by kernel_rfl) (fun _ _ _ h => h) (by first | rfl | (simp [Region.wanted,yielded]; done) | simp [Region.wanted,yielded,undef]) ?_ hO ?_
           rotate_left
           ·(intro w' hSw; (try dsimp only at hSw); obtain ⟨n0,n1,nf,nz⟩:=(kA16.call hSw).two; go_simp; try with_reducible rfl)
           clear hO
           intro hO
           try simp only [Act.put,Sp1,Sp2,Sp3,Sp4,Sp5,Sp6]
           refine AnyO.take 0 (i:=4) (v:=?_) rfl rfl (by kernel_rfl) (fun _ _ _ h => h) (by first | rfl | (simp [Region.wanted,yielded]; done) | simp [Region.wanted,yielded,undef]) ?_ hO ?_
           rotate_left
           ·(intro w' hSw; (try dsimp only at hSw); go_simp; try with_reducible rfl)
           clear hO
           intro hO
           try simp only [Act.put,Sp1,Sp2,Sp3,Sp4,Sp5,Sp6]
           refine AnyO.take 0 (i:=6) (v:=?_) rfl rfl (by kernel_rfl) (fun _ _ _ h => h) (by first | rfl | (simp [Region.wanted,yielded]; done) | simp [Region.wanted,yielded,undef]) ?_ hO ?_
           rotate_left
           ·(intro w' hSw; (try dsimp only at hSw); obtain ⟨m0,m1,mf,mz⟩:=(kA14.call hSw).two; go_simp; try with_reducible rfl)
           clear hO
           intro hO
           try simp only [Act.put,Sp1,Sp2,Sp3,Sp4,Sp5,Sp6]
           refine AnyO.take 1 (i:=8) (v:=?_) rfl rfl (by kernel_rfl) (fun _ _ _ h => h) (by first | rfl | (simp [Region.wanted,yielded]; done) | simp [Region.wanted,yielded,undef]) ?_ hO ?_
           rotate_left
           ·(intro w' hSw; (try dsimp only at hSw); obtain ⟨n0,n1,nf,nz⟩:=hSw.two; go_simp; try with_reducible rfl)
           clear hO
           intro hO
           try simp only [Act.put,Sp1,Sp2,Sp3,Sp4,Sp5,Sp6]
           refine AnyO.take 1 (i:=9) (v:=?_) rfl rfl (by kernel_rfl) (fun _ _ _ h => h) (by first | rfl | (simp [Region.wanted,yielded]; done) | simp [Region.wanted,yielded,undef]) ?_ hO ?_
           rotate_left
           ·(intro w' hSw; (try dsimp only at hSw); go_simp; try with_reducible rfl)
           clear hO
           intro hO
           try simp only [Act.put,Sp1,Sp2,Sp3,Sp4,Sp5,Sp6]
           refine AnyO.take 1 (i:=10) (v:=?_) rfl rfl (by kernel_rfl) (fun _ _ _ h => h) (by first | rfl | (simp [Region.wanted,yielded]; done) | simp [Region.wanted,yielded,undef]) ?_ hO ?_
           rotate_left
           ·(intro w' hSw; (try dsimp only at hSw); go_simp; try with_reducible rfl)
           clear hO
           intro hO
           try simp only [Act.put,Sp1,Sp2,Sp3,Sp4,Sp5,Sp6]
           refine AnyO.one (i:=11) (by kernel_rfl) rfl (by first | rfl | (simp [Region.wanted,yielded]; done) | simp [Region.wanted,yielded,undef]) ?_
           clear hO
           obtain ⟨m0,m1,mf,mz⟩:=kA14.drew.two
           obtain ⟨m0b,m1b,mfb,mzb⟩:=kA14.two
           go_simp
           clear m0 m1 mf mz m0b m1b mfb mzb
           refine OnwardO.on (Owe.two (.inl (by kernel_rfl)) (.inr (kA16.far (p:=⟨b14,0,none⟩) (by show b16 ≠ b14; omega) _).drew)) (fun hO => ?_)
           try simp only [Act.put,Sp1,Sp2,Sp3,Sp4,Sp5,Sp6]
           refine AnyO.one (i:=12) (by kernel_rfl) rfl (by first | rfl | (simp [Region.wanted,yielded]; done) | simp [Region.wanted,yielded,undef]) ?_
           clear hO
           go_simp
           refine OnwardO.on (Owe.two (.inl (by kernel_rfl)) (.inr (kA16.far (p:=⟨b14,0,none⟩) (by show b16 ≠ b14; omega) _).drew)) (fun hO => ?_)
           try simp only [Act.put,Sp1,Sp2,Sp3,Sp4,Sp5,Sp6]
           refine AnyO.one (i:=13) (by kernel_rfl) rfl (by first | rfl | (simp [Region.wanted,yielded]; done) | simp [Region.wanted,yielded,undef]) ?_
           clear hO
           obtain ⟨m0b,m1b,mfb,mzb⟩:=kA14.two
           go_simp
           clear m0b m1b mfb mzb
           refine OnwardO.on (Owe.two (.inl (by kernel_rfl)) (.inl (by kernel_rfl))) (fun hO => ?_)
           try simp only [Act.put,Sp1,Sp2,Sp3,Sp4,Sp5,Sp6]
           refine AnyO.one (i:=14) (by kernel_rfl) rfl (by first | rfl | (simp [Region.wanted,yielded]; done) | simp [Region.wanted,yielded,undef]) ?_
           clear hO
           go_simp
           refine OnwardO.on (Owe.two (.inl (by kernel_rfl)) (.inl (by kernel_rfl))) (fun hO => ?_)
           try simp only [Act.put,Sp1,Sp2,Sp3,Sp4,Sp5,Sp6]
           refine AnyO.done (by kernel_rfl) ?_ _
           clear hO
           go_simp
           go_wp2_with fail
           go_roundw
           case rel => exact ⟨j + 1,y + 1,min x1 x1,max x2 x2,rfl,Lib.hid (by have:=hy.out; omega),by omega,by rw [HNX.out]; simp,Lib.hid (by rw [HNX.out]; simp only [eq_self_iff_true,if_true]; rw [Int.min_self,Int.max_self]; symm; show cov1 [prf y] = _; unfold cov1; rw [hpy.out]; rfl),by omega,by have h:=((kA14.set_ 0 (.int .i64 (min x1 x1))).set_ 1 (.int .i64 (max x2 x2))).drew; simpa [min_if,min_if2,min_if3,max_if,max_if2] using h,(show RJ w st z0 z1 (some ad) n c es FA fn fc BA bn bc fs bs d0 d1 F B KA KC qk g q (rowS K S i) q2 (rowP K S i p) b11 ec0 ec1 _ from ⟨((RA.qi.far kA14 (by omega) 0 _).far (kA14.set_ 0 _) (by omega) 1 _).bel (Below.drew (Below.refl _ _)),((RA.kq.far (by show q ≠ b14; omega) _).far (by show q ≠ b14; omega) _).drew,((RA.kq2.far (by show q2 ≠ b14; omega) _).far (by show q2 ≠ b14; omega) _).drew,((RA.k11.far (by show b11 ≠ b14; omega) _).far (by show b11 ≠ b14; omega) _).drew⟩)⟩
           case measure => simp [intOf]; omega
          ·have hLn : LJ ≠ []:=by intro h; have:=HSB2.out; rw [h] at this; simp at this
           go_upto_region 23 with fail
           clear m0 m1 mf mz n0 n1 nf nz
           obtain ⟨xA,hxA⟩ : ∃ x,x = x9:=⟨_,rfl⟩
           have RA:=RT
           have kA14:=kT14
           have kA16:=kT16
           rw [← hxA] at RA kA14 kA16 ⊢
           clear hxA RT kT14 kT16
           refine AnyG.startC (by kernel_rfl) ?_
           refine AnyG.takeP (i:=0) (v:=?_) rfl (by kernel_rfl) (fun _ _ _ h => h) rfl ?_ ?_
           rotate_left
           ·(intro w'; go_simp; try with_reducible rfl)
           try simp only [Act.put,Sp1,Sp2,Sp3,Sp4,Sp5,Sp6]
           refine AnyG.takeP (i:=2) (v:=?_) rfl (by kernel_rfl) (fun _ _ _ h => h) rfl ?_ ?_
           rotate_left
           ·(intro w'; go_simp; try with_reducible rfl)
           try simp only [Act.put,Sp1,Sp2,Sp3,Sp4,Sp5,Sp6]
           refine AnyG.takeP (i:=5) (v:=?_) rfl (by kernel_rfl) (fun _ _ _ h => h) rfl ?_ ?_
           rotate_left
           ·(intro w'; go_simp; try with_reducible rfl)
           try simp only [Act.put,Sp1,Sp2,Sp3,Sp4,Sp5,Sp6]
           refine AnyG.takeP (i:=7) (v:=?_) rfl (by kernel_rfl) (fun _ _ _ h => h) rfl ?_ ?_
           rotate_left
           ·(intro w'; go_simp; try with_reducible rfl)
           try simp only [Act.put,Sp1,Sp2,Sp3,Sp4,Sp5,Sp6]
           refine AnyO.enter [(11,(fun w' : World => Below xA.heap.size xA w')),(13,(fun w' : World => Bx w' b16 23 #[.int .i64 x1,.int .i64 x2]))] (Owe.two (.inr (Below.drew (Below.refl _ _))) (.inr kA16.drew)) (fun hO => ?_)
           refine AnyO.take 0 (i:=1) (v:=?_) rfl rfl (by kernel_rfl) (fun _ _ _ h => h) (by first | rfl | (simp [Region.wanted,yielded]; done) | simp [Region.wanted,yielded,undef]) ?_ hO ?_
           rotate_left
           ·(intro w' hSw; (try dsimp only at hSw); obtain ⟨m0,m1,mf,mz⟩:=(kA14.call hSw).two; go_simp; try with_reducible rfl)
           clear hO
           intro hO
           try simp only [Act.put,Sp1,Sp2,Sp3,Sp4,Sp5,Sp6]
           refine AnyO.take 0 (i:=3) (v:=?_) rfl rfl (by kernel_rfl) (fun _ _ _ h => h) (by first | rfl | (simp [Region.wanted,yielded]; done) | simp [Region.wanted,yielded,undef]) ?_ hO ?_
           rotate_left
           ·(intro w' hSw; (try dsimp only at hSw); obtain ⟨n0,n1,nf,nz⟩:=(kA16.call hSw).two; go_simp; try with_reducible rfl)
           clear hO
           intro hO
           try simp only [Act.put,Sp1,Sp2,Sp3,Sp4,Sp5,Sp6]
           refine AnyO.take 0 (i:=4) (v:=?_) rfl rfl (by kernel_rfl) (fun _ _ _ h => h) (by first | rfl | (simp [Region.wanted,yielded]; done) | simp [Region.wanted,yielded,undef]) ?_ hO ?_
           rotate_left
           ·(intro w' hSw; (try dsimp only at hSw); go_simp; try with_reducible rfl)
           clear hO
           intro hO
           try simp only [Act.put,Sp1,Sp2,Sp3,Sp4,Sp5,Sp6]
           refine AnyO.take 0 (i:=6) (v:=?_) rfl rfl (by kernel_rfl) (fun _ _ _ h => h) (by first | rfl | (simp [Region.wanted,yielded]; done) | simp [Region.wanted,yielded,undef]) ?_ hO ?_
           rotate_left
           ·(intro w' hSw; (try dsimp only at hSw); obtain ⟨m0,m1,mf,mz⟩:=(kA14.call hSw).two; go_simp; try with_reducible rfl)
           clear hO
           intro hO
           try simp only [Act.put,Sp1,Sp2,Sp3,Sp4,Sp5,Sp6]
           refine AnyO.take 1 (i:=8) (v:=?_) rfl rfl (by kernel_rfl) (fun _ _ _ h => h) (by first | rfl | (simp [Region.wanted,yielded]; done) | simp [Region.wanted,yielded,undef]) ?_ hO ?_
           rotate_left
           ·(intro w' hSw; (try dsimp only at hSw); obtain ⟨n0,n1,nf,nz⟩:=hSw.two; go_simp; try with_reducible rfl)
           clear hO
           intro hO
           try simp only [Act.put,Sp1,Sp2,Sp3,Sp4,Sp5,Sp6]
           refine AnyO.take 1 (i:=9) (v:=?_) rfl rfl (by kernel_rfl) (fun _ _ _ h => h) (by first | rfl | (simp [Region.wanted,yielded]; done) | simp [Region.wanted,yielded,undef]) ?_ hO ?_
           rotate_left
           ·(intro w' hSw; (try dsimp only at hSw); go_simp; try with_reducible rfl)
           clear hO
           intro hO
           try simp only [Act.put,Sp1,Sp2,Sp3,Sp4,Sp5,Sp6]
           refine AnyO.take 1 (i:=10) (v:=?_) rfl rfl (by kernel_rfl) (fun _ _ _ h => h) (by first | rfl | (simp [Region.wanted,yielded]; done) | simp [Region.wanted,yielded,undef]) ?_ hO ?_
           rotate_left
           ·(intro w' hSw; (try dsimp only at hSw); go_simp; try with_reducible rfl)
           clear hO
           intro hO
           try simp only [Act.put,Sp1,Sp2,Sp3,Sp4,Sp5,Sp6]
           refine AnyO.one (i:=11) (by kernel_rfl) rfl (by first | rfl | (simp [Region.wanted,yielded]; done) | simp [Region.wanted,yielded,undef]) ?_
           clear hO
           obtain ⟨m0,m1,mf,mz⟩:=kA14.drew.two
           obtain ⟨m0b,m1b,mfb,mzb⟩:=kA14.two
           go_simp
           clear m0 m1 mf mz m0b m1b mfb mzb
           refine OnwardO.on (Owe.two (.inl (by kernel_rfl)) (.inr (kA16.far (p:=⟨b14,0,none⟩) (by show b16 ≠ b14; omega) _).drew)) (fun hO => ?_)
           try simp only [Act.put,Sp1,Sp2,Sp3,Sp4,Sp5,Sp6]
           refine AnyO.one (i:=12) (by kernel_rfl) rfl (by first | rfl | (simp [Region.wanted,yielded]; done) | simp [Region.wanted,yielded,undef]) ?_
           clear hO
           go_simp
           refine OnwardO.on (Owe.two (.inl (by kernel_rfl)) (.inr (kA16.far (p:=⟨b14,0,none⟩) (by show b16 ≠ b14; omega) _).drew)) (fun hO => ?_)
           try simp only [Act.put,Sp1,Sp2,Sp3,Sp4,Sp5,Sp6]
           refine AnyO.one (i:=13) (by kernel_rfl) rfl (by first | rfl | (simp [Region.wanted,yielded]; done) | simp [Region.wanted,yielded,undef]) ?_
           clear hO
           obtain ⟨m0b,m1b,mfb,mzb⟩:=kA14.two
           go_simp
           clear m0b m1b mfb mzb
           refine OnwardO.on (Owe.two (.inl (by kernel_rfl)) (.inl (by kernel_rfl))) (fun hO => ?_)
           try simp only [Act.put,Sp1,Sp2,Sp3,Sp4,Sp5,Sp6]
           refine AnyO.one (i:=14) (by kernel_rfl) rfl (by first | rfl | (simp [Region.wanted,yielded]; done) | simp [Region.wanted,yielded,undef]) ?_
           clear hO
           go_simp
           refine OnwardO.on (Owe.two (.inl (by kernel_rfl)) (.inl (by kernel_rfl))) (fun hO => ?_)
           try simp only [Act.put,Sp1,Sp2,Sp3,Sp4,Sp5,Sp6]
           refine AnyO.done (by kernel_rfl) ?_ _
           clear hO
           go_simp
           go_wp2_with fail
           go_roundw
           case rel => exact ⟨j + 1,y + 1,min b1 x1,max b2 x2,rfl,Lib.hid (by have:=hy.out; omega),by omega,by rw [HNX.out]; simp,Lib.hid (by rw [HNX.out]; simp only [eq_self_iff_true,if_true]; symm; rw [cov1_snoc _ _ hLn,← HB.out,hpy.out]; rfl),by omega,by have h:=((kA14.set_ 0 (.int .i64 (min b1 x1))).set_ 1 (.int .i64 (max b2 x2))).drew; simpa [min_if,min_if2,min_if3,max_if,max_if2] using h,(show RJ w st z0 z1 (some ad) n c es FA fn fc BA bn bc fs bs d0 d1 F B KA KC qk g q (rowS K S i) q2 (rowP K S i p) b11 ec0 ec1 _ from ⟨((RA.qi.far kA14 (by omega) 0 _).far (kA14.set_ 0 _) (by omega) 1 _).bel (Below.drew (Below.refl _ _)),((RA.kq.far (by show q ≠ b14; omega) _).far (by show q ≠ b14; omega) _).drew,((RA.kq2.far (by show q2 ≠ b14; omega) _).far (by show q2 ≠ b14; omega) _).drew,((RA.k11.far (by show b11 ≠ b14; omega) _).far (by show b11 ≠ b14; omega) _).drew⟩)⟩
           case measure => simp [intOf]; omega
       ·have hjj : j = (ec1 - ec0 + 1).toNat:=by have:=hy.out; omega
        have hful : ((rngL (z - ec1) (z - ec0)).filter okf).map prf = LJ:=by rw [← HLJ.out,hjj]; unfold rngL upTo; rw [show (z - ec0 - (z - ec1) + 1).toNat = (ec1 - ec0 + 1).toNat by congr 1; omega]
        obtain ⟨x1,hx1⟩ : ∃ x,(wt i z).1 = x:=⟨_,rfl⟩
        obtain ⟨x2,hx2⟩ : ∃ x,(wt i z).2 = x:=⟨_,rfl⟩
        have hsz : Hid (S i z = (b1 + x1,b2 + x2)):=by unfold Hid; rw [HSI.out z,hful,← HB.out,hx1,hx2]
        have hxb:=HWB.out i z
        unfold Bd at hxb
        rw [hx1,hx2] at hxb
        have HX:=Lib.hid (And.intro hx1 hx2)
        clear hx1 hx2 hful
        obtain ⟨l0,l1,l2,l3,lf,lz⟩:=R.qi.ls.k1.four
        obtain ⟨s0,s1,s2,s3,s4,s5,sf,sz⟩:=R.qi.ls.k2.six
        go_upto_region 25 with (first | (go_at_call 106; refine (refAdds_any st z0 z1 (some ad) n c es FA fn fc BA bn bc fs bs d0 d1 F B i e z _ hn14 HL.out R.qi.ls.ev hfn hbn HF.out HBn.out R.qi.ls.sf R.qi.ls.sb HE.out HOKE.out hs1 hs2 (by omega) (by omega) HOV.out).mono ?_; rintro r y1 ⟨rfl,hq⟩; rw [HWT.out,HX.out.1,HX.out.2]) | fail)
        clear l0 l1 l2 l3 lf lz s0 s1 s2 s3 s4 s5 sf sz r0 r1 rf rz
        have R8:=(R.bel hq).al (.cells #[.int .i64 x1,.int .i64 x2] 23)
        have k148:=(k14.call hq).alloc (.cells #[.int .i64 x1,.int .i64 x2] 23)
        have k17:=Bx.new y1 23 #[.int .i64 x1,.int .i64 x2]
        obtain ⟨x8,hx8⟩ : ∃ x,y1.alloc (.cells #[.int .i64 x1,.int .i64 x2] 23) = x:=⟨_,rfl⟩
        obtain ⟨b17,hb17⟩ : ∃ b,y1.heap.size = b:=⟨_,rfl⟩
        rw [hx8] at R8 k148 k17 ⊢
        rw [hb17] at k17 ⊢
        clear hx8 hb17 R k14 hq
        obtain ⟨m0,m1,mf,mz⟩:=k148.two
        obtain ⟨n0,n1,nf,nz⟩:=k17.two
        have hp41 : p < 401:=by omega
        have hw2 : z + 200 = (p : Int):=by omega
        have hw : IntKind.i64.wrap (z + 200) = (p : Int):=by rw [hw2]; exact IntWalk.i64_in _ (by omega)
        have hp42 : (p : Int) < 401:=by omega
        have u0 : x8.cell? ⟨q2,p * 2,none⟩ = some (.int .i64 (rowP K S i p p).1):=by rw [R8.kq2.cell,parr_fst 401 _ hp41 rfl]
        have u1 : x8.cell? ⟨q2,p * 2 + 1,none⟩ = some (.int .i64 (rowP K S i p p).2):=by rw [R8.kq2.cell,parr_snd 401 _ hp41 rfl]
        have uf:=R8.kq2.free
        have uz:=R8.kq2.lt
        have ha1 : IntKind.i64.wrap (b1 + x1) = b1 + x1:=IntWalk.i64_in _ (by omega)
        have ha2 : IntKind.i64.wrap (b2 + x2) = b2 + x2:=IntWalk.i64_in _ (by omega)
        generalize (rowP K S i p p).1 = g1 at u0
        generalize (rowP K S i p p).2 = g2 at u1
        go_wp2_with fail
        go_roundw
        case rel => exact ⟨p + 1,z + 1,by omega,rfl,Lib.hid (by have:=hz.out; omega),⟨(R8.qi.far R8.kq2 (by omega) _ _).far (R8.kq2.set_ _ _) (by omega) _ _,(R8.kq.far (by show q ≠ q2; omega) _).far (by show q ≠ q2; omega) _,by have h:=(R8.kq2.set_ (p * 2) (.int .i64 (b1 + x1))).set_ (p * 2 + 1) (.int .i64 (b2 + x2)); rw [parr_set 401 _ hp41 rfl,← hsz.out,show z = (p : Int) - 200 by exact hz.out,rowP_put (by rw [← hz.out]; exact HKK.out)] at h; exact h,(R8.k11.far (by show b11 ≠ q2; omega) _).far (by show b11 ≠ q2; omega) _⟩⟩
        case measure => simp [intOf]; omega
    ·obtain rfl : p = 401:=by omega
     go_wp2_with fail
     go_roundw
     case rel => exact ⟨i + 1,q2,by omega,by go_num,rfl,by omega,by have h:=R.kq2; rw [parr_congr (fun r hr => rowP_all K S i r hr)] at h; exact h,R.qi⟩
     case measure => simp [intOf]; omega
  ·have hni : n = i:=by omega
   subst hni
   obtain ⟨n1,hn1⟩ : ∃ r,n = r + 1:=⟨n - 1,by omega⟩
   have hsa : Hid (smA z0 z1 es K wt n = cov1 (((rngL (-200) 200).filter (K n1)).map (S n1))):=by unfold Hid; rw [HSMA.out,show n - 1 = n1 by omega]
   have hnl : n1 < n:=by omega
   have hwn2 : (n : Int) - 1 = (n1 : Int):=by omega
   have hwn : IntKind.i64.wrap ((n : Int) - 1) = (n1 : Int):=by rw [hwn2]; exact IntWalk.i64_in _ (by omega)
   have hrow : Hid (∀ p : Nat,K n1 ((p : Int) - 200) = true → rowS K S n p = S n1 ((p : Int) - 200)):=by
    unfold Hid
    intro p h
    rw [hn1]
    show (if K n1 ((p : Int) - 200) = true then S n1 ((p : Int) - 200) else (0,0)) = _
    rw [if_pos h]
   clear hn1
   go_upto_region 28 with fail
   clear l0 l1 l2 l3 lf lz
   have I5:=I.al (.cells #[.int .i64 0,.int .i64 0] 23)
   have kq5:=kq.alloc (.cells #[.int .i64 0,.int .i64 0] 23)
   have k18:=Bx.new w3 23 #[.int .i64 0,.int .i64 0]
   have hq18 : q < w3.heap.size:=kq.lt
   obtain ⟨x5,hx5⟩ : ∃ x,w3.alloc (.cells #[.int .i64 0,.int .i64 0] 23) = x:=⟨_,rfl⟩
   obtain ⟨b18,hb18⟩ : ∃ b,w3.heap.size = b:=⟨_,rfl⟩
   rw [hx5] at I5 kq5 k18 ⊢
   rw [hb18] at k18 hq18 ⊢
   clear hx5 hb18 I kq
   go_wp2_with fail
   go_loopw [20,19] (fun v20 v19 wr => ∃ (p : Nat) (z b1 b2 : Int),p ≤ 401 ∧ v20 = .int .i64 z ∧ Hid (z = (p : Int) - 200) ∧ v19 = .bool (!(((upTo (-200) p).filter (K n1)).map (S n1)).isEmpty) ∧ Hid ((b1,b2) = cov1 (((upTo (-200) p).filter (K n1)).map (S n1))) ∧ (-1400000 ≤ b1 ∧ b1 ≤ 1400000 ∧ -1400000 ≤ b2 ∧ b2 ≤ 1400000) ∧ Bx wr b18 23 #[.int .i64 b1,.int .i64 b2] ∧ Bx wr q 23 (parr 401 (rowS K S n)) ∧ QI w st z0 z1 A n c es FA fn fc BA bn bc fs bs d0 d1 F B KA KC qk g wr) (fun v20 _ _ => (401 - (intOf v20 + 200)).toNat)
   case atStart => exact ⟨0,-200,0,0,by omega,rfl,Lib.hid (by omega),by simp [upTo],Lib.hid (by simp [upTo,cov1]),by omega,k18,kq5,I5⟩
   case round =>
    clear I5 k18 kq5
    obtain ⟨w4,rfl⟩ : ∃ x,x = wr:=⟨_,rfl⟩
    obtain ⟨p,z,b1,b2,hp,rfl,hz,rfl,hb,hbb,k18,kq,I⟩:=hrel
    have hzb : z + 200 ≤ p ∧ p ≤ z + 200:=by have:=hz.out; omega
    have hb:=hb.out
    obtain ⟨LJ,hLJ⟩ : ∃ l,((upTo (-200) p).filter (K n1)).map (S n1) = l:=⟨_,rfl⟩
    rw [hLJ] at hb ⊢
    have HB:=Lib.hid hb
    have HLJ:=Lib.hid hLJ
    clear hb hLJ
    obtain ⟨sb,hsb⟩ : ∃ b,(!LJ.isEmpty) = b:=⟨_,rfl⟩
    rw [hsb]
    have HSB2:=Lib.hid hsb
    clear hsb
    by_cases hp4 : z ≤ 200
    ·obtain ⟨kk,hkk⟩ : ∃ x,K n1 z = x:=⟨_,rfl⟩
     have HNX : Hid (((upTo (-200) (p + 1)).filter (K n1)).map (S n1) = LJ ++ (if kk = true then [S n1 z] else [])):=by unfold Hid; rw [filt_next,HLJ.out,show -200 + (p : Int) = z by have:=hz.out; omega,hkk]
     have hmay:=may_any 0 KA n KC qk g n1 z w4 I.gr hn14 hnl (by omega) (by omega)
     rw [HK.out,hkk] at hmay
     have HM:=Lib.hid hmay
     have HKK:=Lib.hid hkk
     clear hkk hmay
     obtain ⟨a0,af,az⟩:=I.k5.one
     obtain ⟨l0,l1,l2,l3,lf,lz⟩:=I.ls.k1.four
     cases kk
     ·go_wp2_with (first | (go_at_call 85; refine HM.out.mono ?_; rintro r y1 ⟨rfl,hq⟩) | fail)
      go_roundw
      case rel => exact ⟨p + 1,z + 1,b1,b2,by omega,rfl,Lib.hid (by have:=hz.out; omega),by rw [HNX.out]; simp [HSB2.out],Lib.hid (by rw [HNX.out]; simp; exact HB.out),by omega,k18.call hq,kq.call hq,I.bel hq⟩
      case measure => simp [intOf]; omega
     ·go_upto_region 32 with (first | (go_at_call 85; refine HM.out.mono ?_; rintro r y1 ⟨rfl,hq⟩) | fail)
      clear a0 af az l0 l1 l2 l3 lf lz
      have I5:=I.bel hq
      have k185:=k18.call hq
      have kq5:=kq.call hq
      clear I k18 kq hq
      have hp41 : p < 401:=by omega
      have hw2 : z + 200 = (p : Int):=by omega
      have hw : IntKind.i64.wrap (z + 200) = (p : Int):=by rw [hw2]; exact IntWalk.i64_in _ (by omega)
      have hp42 : (p : Int) < 401:=by omega
      have hrp:=hrow.out p (by rw [← hz.out]; exact HKK.out)
      rw [← hz.out] at hrp
      have c0 : y1.cell? ⟨q,p * 2,none⟩ = some (.int .i64 (S n1 z).1):=by rw [kq5.cell,parr_fst 401 _ hp41 rfl,hrp]
      have c1 : y1.cell? ⟨q,p * 2 + 1,none⟩ = some (.int .i64 (S n1 z).2):=by rw [kq5.cell,parr_snd 401 _ hp41 rfl,hrp]
      have hxb:=HSB.out n1 z hnl
      obtain ⟨x1,hx1⟩ : ∃ x,(S n1 z).1 = x:=⟨_,rfl⟩
      obtain ⟨x2,hx2⟩ : ∃ x,(S n1 z).2 = x:=⟨_,rfl⟩
      unfold Bd at hxb
      rw [hx1] at c0 hxb
      rw [hx2] at c1 hxb
      have hpy : Hid (S n1 z = (x1,x2)):=by unfold Hid; rw [← hx1,← hx2]
      have hqz:=kq5.lt
      clear hx1 hx2 hrp
      go_upto_region 33 with fail
      clear c0 c1
      have I6:=I5.al (.cells #[.int .i64 x1,.int .i64 x2] 23)
      have k186:=k185.alloc (.cells #[.int .i64 x1,.int .i64 x2] 23)
      have kq6:=kq5.alloc (.cells #[.int .i64 x1,.int .i64 x2] 23)
      have k21:=Bx.new y1 23 #[.int .i64 x1,.int .i64 x2]
      have hb21 : b18 < y1.heap.size:=k185.lt
      obtain ⟨x6,hx6⟩ : ∃ x,y1.alloc (.cells #[.int .i64 x1,.int .i64 x2] 23) = x:=⟨_,rfl⟩
      obtain ⟨b21,hb21e⟩ : ∃ b,y1.heap.size = b:=⟨_,rfl⟩
      rw [hx6] at I6 k186 kq6 k21 ⊢
      rw [hb21e] at k21 hb21 ⊢
      clear hx6 hb21e I5 k185 kq5
      obtain ⟨m0,m1,mf,mz⟩:=k186.two
      obtain ⟨n0,n2,nf,nz⟩:=k21.two
      cases sb
      ·have hLe : LJ = []:=by have:=HSB2.out; simpa using this
       subst hLe
       go_upto_region 35 with fail
       clear m0 m1 mf mz n0 n2 nf nz
       have I7:=(I6.far k186 (by omega) 0 (.int .i64 x1)).far (k186.set_ 0 _) (by omega) 1 (.int .i64 x2)
       have kq7:=(kq6.far (p:=⟨b18,0,none⟩) (by show q ≠ b18; omega) (.int .i64 x1)).far (p:=⟨b18,1,none⟩) (by show q ≠ b18; omega) (.int .i64 x2)
       have k217:=(k21.far (p:=⟨b18,0,none⟩) (by show b21 ≠ b18; omega) (.int .i64 x1)).far (p:=⟨b18,1,none⟩) (by show b21 ≠ b18; omega) (.int .i64 x2)
       have k187 : Bx ((x6.setCell ⟨b18,0,none⟩ (.int .i64 x1)).setCell ⟨b18,1,none⟩ (.int .i64 x2)) b18 23 #[.int .i64 x1,.int .i64 x2]:=by have:=(k186.set_ 0 (.int .i64 x1)).set_ 1 (.int .i64 x2); simpa using this
       obtain ⟨xA,hxA⟩ : ∃ x,((x6.setCell ⟨b18,0,none⟩ (.int .i64 x1)).setCell ⟨b18,1,none⟩ (.int .i64 x2)) = x:=⟨_,rfl⟩
       rw [hxA] at I7 kq7 k217 k187 ⊢
       clear hxA I6 kq6 k21 k186
       refine AnyG.startC (by kernel_rfl) ?_
       refine AnyG.takeP (i:=0) (v:=?_) rfl (by kernel_rfl) (fun _ _ _ h => h) rfl ?_ ?_
       rotate_left
       ·(intro w'; go_simp; try with_reducible rfl)
       try simp only [Act.put,Sp1,Sp2,Sp3,Sp4,Sp5,Sp6]
       refine AnyG.takeP (i:=2) (v:=?_) rfl (by kernel_rfl) (fun _ _ _ h => h) rfl ?_ ?_
       rotate_left
       ·(intro w'; go_simp; try with_reducible rfl)
       try simp only [Act.put,Sp1,Sp2,Sp3,Sp4,Sp5,Sp6]
       refine AnyG.takeP (i:=5) (v:=?_) rfl (by kernel_rfl) (fun _ _ _ h => h) rfl ?_ ?_
       rotate_left
       ·(intro w'; go_simp; try with_reducible rfl)
       try simp only [Act.put,Sp1,Sp2,Sp3,Sp4,Sp5,Sp6]
       refine AnyG.takeP (i:=7) (v:=?_) rfl (by kernel_rfl) (fun _ _ _ h => h) rfl ?_ ?_
       rotate_left
       ·(intro w'; go_simp; try with_reducible rfl)
       try simp only [Act.put,Sp1,Sp2,Sp3,Sp4,Sp5,Sp6]
       refine AnyO.enter [(11,(fun w' : World => Below xA.heap.size xA w')),(13,(fun w' : World => Bx w' b21 23 #[.int .i64 x1,.int .i64 x2]))] (Owe.two (.inr (Below.drew (Below.refl _ _))) (.inr k217.drew)) (fun hO => ?_)
       refine AnyO.take 0 (i:=1) (v:=?_) rfl rfl (by kernel_rfl) (fun _ _ _ h => h) (by first | rfl | (simp [Region.wanted,yielded]; done) | simp [Region.wanted,yielded,undef]) ?_ hO ?_
       rotate_left
       ·(intro w' hSw; (try dsimp only at hSw); obtain ⟨m0,m1,mf,mz⟩:=(k187.call hSw).two; go_simp; try with_reducible rfl)
       clear hO
       intro hO
       try simp only [Act.put,Sp1,Sp2,Sp3,Sp4,Sp5,Sp6]
       refine AnyO.take 0 (i:=3) (v:=?_) rfl rfl (by kernel_rfl) (fun _ _ _ h => h) (by first | rfl | (simp [Region.wanted,yielded]; done) | simp [Region.wanted,yielded,undef]) ?_ hO ?_
       rotate_left
       ·(intro w' hSw; (try dsimp only at hSw); obtain ⟨n0,n2,nf,nz⟩:=(k217.call hSw).two; go_simp; try with_reducible rfl)
       clear hO
       intro hO
       try simp only [Act.put,Sp1,Sp2,Sp3,Sp4,Sp5,Sp6]
       refine AnyO.take 0 (i:=4) (v:=?_) rfl rfl (by kernel_rfl) (fun _ _ _ h => h) (by first | rfl | (simp [Region.wanted,yielded]; done) | simp [Region.wanted,yielded,undef]) ?_ hO ?_
       rotate_left
       ·(intro w' hSw; (try dsimp only at hSw); go_simp; try with_reducible rfl)
       clear hO
       intro hO
       try simp only [Act.put,Sp1,Sp2,Sp3,Sp4,Sp5,Sp6]
       refine AnyO.take 0 (i:=6) (v:=?_) rfl rfl (by kernel_rfl) (fun _ _ _ h => h) (by first | rfl | (simp [Region.wanted,yielded]; done) | simp [Region.wanted,yielded,undef]) ?_ hO ?_
       rotate_left
       ·(intro w' hSw; (try dsimp only at hSw); obtain ⟨m0,m1,mf,mz⟩:=(k187.call hSw).two; go_simp; try with_reducible rfl)
       clear hO
       intro hO
       try simp only [Act.put,Sp1,Sp2,Sp3,Sp4,Sp5,Sp6]
       refine AnyO.take 1 (i:=8) (v:=?_) rfl rfl (by kernel_rfl) (fun _ _ _ h => h) (by first | rfl | (simp [Region.wanted,yielded]; done) | simp [Region.wanted,yielded,undef]) ?_ hO ?_
       rotate_left
       ·(intro w' hSw; (try dsimp only at hSw); obtain ⟨n0,n2,nf,nz⟩:=hSw.two; go_simp; try with_reducible rfl)
       clear hO
       intro hO
       try simp only [Act.put,Sp1,Sp2,Sp3,Sp4,Sp5,Sp6]
       refine AnyO.take 1 (i:=9) (v:=?_) rfl rfl (by kernel_rfl) (fun _ _ _ h => h) (by first | rfl | (simp [Region.wanted,yielded]; done) | simp [Region.wanted,yielded,undef]) ?_ hO ?_
       rotate_left
       ·(intro w' hSw; (try dsimp only at hSw); go_simp; try with_reducible rfl)
       clear hO
       intro hO
       try simp only [Act.put,Sp1,Sp2,Sp3,Sp4,Sp5,Sp6]
       refine AnyO.take 1 (i:=10) (v:=?_) rfl rfl (by kernel_rfl) (fun _ _ _ h => h) (by first | rfl | (simp [Region.wanted,yielded]; done) | simp [Region.wanted,yielded,undef]) ?_ hO ?_
       rotate_left
       ·(intro w' hSw; (try dsimp only at hSw); go_simp; try with_reducible rfl)
       clear hO
       intro hO
       try simp only [Act.put,Sp1,Sp2,Sp3,Sp4,Sp5,Sp6]
       refine AnyO.one (i:=11) (by kernel_rfl) rfl (by first | rfl | (simp [Region.wanted,yielded]; done) | simp [Region.wanted,yielded,undef]) ?_
       clear hO
       obtain ⟨m0,m1,mf,mz⟩:=k187.drew.two
       obtain ⟨m0b,m1b,mfb,mzb⟩:=k187.two
       go_simp
       clear m0 m1 mf mz m0b m1b mfb mzb
       refine OnwardO.on (Owe.two (.inl (by kernel_rfl)) (.inr (k217.far (p:=⟨b18,0,none⟩) (by show b21 ≠ b18; omega) _).drew)) (fun hO => ?_)
       try simp only [Act.put,Sp1,Sp2,Sp3,Sp4,Sp5,Sp6]
       refine AnyO.one (i:=12) (by kernel_rfl) rfl (by first | rfl | (simp [Region.wanted,yielded]; done) | simp [Region.wanted,yielded,undef]) ?_
       clear hO
       go_simp
       refine OnwardO.on (Owe.two (.inl (by kernel_rfl)) (.inr (k217.far (p:=⟨b18,0,none⟩) (by show b21 ≠ b18; omega) _).drew)) (fun hO => ?_)
       try simp only [Act.put,Sp1,Sp2,Sp3,Sp4,Sp5,Sp6]
       refine AnyO.one (i:=13) (by kernel_rfl) rfl (by first | rfl | (simp [Region.wanted,yielded]; done) | simp [Region.wanted,yielded,undef]) ?_
       clear hO
       obtain ⟨m0b,m1b,mfb,mzb⟩:=k187.two
       go_simp
       clear m0b m1b mfb mzb
       refine OnwardO.on (Owe.two (.inl (by kernel_rfl)) (.inl (by kernel_rfl))) (fun hO => ?_)
       try simp only [Act.put,Sp1,Sp2,Sp3,Sp4,Sp5,Sp6]
       refine AnyO.done (by kernel_rfl) ?_ _
       clear hO
       go_simp
       go_wp2_with fail
       go_roundw
       case rel => exact ⟨p + 1,z + 1,min x1 x1,max x2 x2,by omega,rfl,Lib.hid (by have:=hz.out; omega),by rw [HNX.out]; simp,Lib.hid (by rw [HNX.out]; simp only [eq_self_iff_true,if_true]; rw [Int.min_self,Int.max_self]; symm; show cov1 [S n1 z] = _; unfold cov1; rw [hpy.out]; rfl),by omega,by have h:=((k187.set_ 0 (.int .i64 (min x1 x1))).set_ 1 (.int .i64 (max x2 x2))).drew; simpa [min_if,min_if2,min_if3,max_if,max_if2] using h,((kq7.far (by show q ≠ b18; omega) _).far (by show q ≠ b18; omega) _).drew,((I7.far k187 (by omega) 0 _).far (k187.set_ 0 _) (by omega) 1 _).bel (Below.drew (Below.refl _ _))⟩
       case measure => simp [intOf]; omega
      ·have hLn : LJ ≠ []:=by intro h; have:=HSB2.out; rw [h] at this; simp at this
       go_upto_region 35 with fail
       clear m0 m1 mf mz n0 n2 nf nz
       have I7:=I6
       have kq7:=kq6
       have k217:=k21
       have k187:=k186
       obtain ⟨xA,hxA⟩ : ∃ x,x = x6:=⟨_,rfl⟩
       rw [← hxA] at I7 kq7 k217 k187 ⊢
       clear hxA I6 kq6 k21 k186
       refine AnyG.startC (by kernel_rfl) ?_
       refine AnyG.takeP (i:=0) (v:=?_) rfl (by kernel_rfl) (fun _ _ _ h => h) rfl ?_ ?_
       rotate_left
       ·(intro w'; go_simp; try with_reducible rfl)
       try simp only [Act.put,Sp1,Sp2,Sp3,Sp4,Sp5,Sp6]
       refine AnyG.takeP (i:=2) (v:=?_) rfl (by kernel_rfl) (fun _ _ _ h => h) rfl ?_ ?_
       rotate_left
       ·(intro w'; go_simp; try with_reducible rfl)
       try simp only [Act.put,Sp1,Sp2,Sp3,Sp4,Sp5,Sp6]
       refine AnyG.takeP (i:=5) (v:=?_) rfl (by kernel_rfl) (fun _ _ _ h => h) rfl ?_ ?_
       rotate_left
       ·(intro w'; go_simp; try with_reducible rfl)
       try simp only [Act.put,Sp1,Sp2,Sp3,Sp4,Sp5,Sp6]
       refine AnyG.takeP (i:=7) (v:=?_) rfl (by kernel_rfl) (fun _ _ _ h => h) rfl ?_ ?_
       rotate_left
       ·(intro w'; go_simp; try with_reducible rfl)
       try simp only [Act.put,Sp1,Sp2,Sp3,Sp4,Sp5,Sp6]
       refine AnyO.enter [(11,(fun w' : World => Below xA.heap.size xA w')),(13,(fun w' : World => Bx w' b21 23 #[.int .i64 x1,.int .i64 x2]))] (Owe.two (.inr (Below.drew (Below.refl _ _))) (.inr k217.drew)) (fun hO => ?_)
       refine AnyO.take 0 (i:=1) (v:=?_) rfl rfl (by kernel_rfl) (fun _ _ _ h => h) (by first | rfl | (simp [Region.wanted,yielded]; done) | simp [Region.wanted,yielded,undef]) ?_ hO ?_
       rotate_left
       ·(intro w' hSw; (try dsimp only at hSw); obtain ⟨m0,m1,mf,mz⟩:=(k187.call hSw).two; go_simp; try with_reducible rfl)
       clear hO
       intro hO
       try simp only [Act.put,Sp1,Sp2,Sp3,Sp4,Sp5,Sp6]
       refine AnyO.take 0 (i:=3) (v:=?_) rfl rfl (by kernel_rfl) (fun _ _ _ h => h) (by first | rfl | (simp [Region.wanted,yielded]; done) | simp [Region.wanted,yielded,undef]) ?_ hO ?_
       rotate_left
       ·(intro w' hSw; (try dsimp only at hSw); obtain ⟨n0,n2,nf,nz⟩:=(k217.call hSw).two; go_simp; try with_reducible rfl)
       clear hO
       intro hO
       try simp only [Act.put,Sp1,Sp2,Sp3,Sp4,Sp5,Sp6]
       refine AnyO.take 0 (i:=4) (v:=?_) rfl rfl (by kernel_rfl) (fun _ _ _ h => h) (by first | rfl | (simp [Region.wanted,yielded]; done) | simp [Region.wanted,yielded,undef]) ?_ hO ?_
       rotate_left
       ·(intro w' hSw; (try dsimp only at hSw); go_simp; try with_reducible rfl)
       clear hO
       intro hO
       try simp only [Act.put,Sp1,Sp2,Sp3,Sp4,Sp5,Sp6]
       refine AnyO.take 0 (i:=6) (v:=?_) rfl rfl (by kernel_rfl) (fun _ _ _ h => h) (by first | rfl | (simp [Region.wanted,yielded]; done) | simp [Region.wanted,yielded,undef]) ?_ hO ?_
       rotate_left
       ·(intro w' hSw; (try dsimp only at hSw); obtain ⟨m0,m1,mf,mz⟩:=(k187.call hSw).two; go_simp; try with_reducible rfl)
       clear hO
       intro hO
       try simp only [Act.put,Sp1,Sp2,Sp3,Sp4,Sp5,Sp6]
       refine AnyO.take 1 (i:=8) (v:=?_) rfl rfl (by kernel_rfl) (fun _ _ _ h => h) (by first | rfl | (simp [Region.wanted,yielded]; done) | simp [Region.wanted,yielded,undef]) ?_ hO ?_
       rotate_left
       ·(intro w' hSw; (try dsimp only at hSw); obtain ⟨n0,n2,nf,nz⟩:=hSw.two; go_simp; try with_reducible rfl)
       clear hO
       intro hO
       try simp only [Act.put,Sp1,Sp2,Sp3,Sp4,Sp5,Sp6]
       refine AnyO.take 1 (i:=9) (v:=?_) rfl rfl (by kernel_rfl) (fun _ _ _ h => h) (by first | rfl | (simp [Region.wanted,yielded]; done) | simp [Region.wanted,yielded,undef]) ?_ hO ?_
       rotate_left
       ·(intro w' hSw; (try dsimp only at hSw); go_simp; try with_reducible rfl)
       clear hO
       intro hO
       try simp only [Act.put,Sp1,Sp2,Sp3,Sp4,Sp5,Sp6]
       refine AnyO.take 1 (i:=10) (v:=?_) rfl rfl (by kernel_rfl) (fun _ _ _ h => h) (by first | rfl | (simp [Region.wanted,yielded]; done) | simp [Region.wanted,yielded,undef]) ?_ hO ?_
       rotate_left
       ·(intro w' hSw; (try dsimp only at hSw); go_simp; try with_reducible rfl)
       clear hO
       intro hO
       try simp only [Act.put,Sp1,Sp2,Sp3,Sp4,Sp5,Sp6]
       refine AnyO.one (i:=11) (by kernel_rfl) rfl (by first | rfl | (simp [Region.wanted,yielded]; done) | simp [Region.wanted,yielded,undef]) ?_
       clear hO
       obtain ⟨m0,m1,mf,mz⟩:=k187.drew.two
       obtain ⟨m0b,m1b,mfb,mzb⟩:=k187.two
       go_simp
       clear m0 m1 mf mz m0b m1b mfb mzb
       refine OnwardO.on (Owe.two (.inl (by kernel_rfl)) (.inr (k217.far (p:=⟨b18,0,none⟩) (by show b21 ≠ b18; omega) _).drew)) (fun hO => ?_)
       try simp only [Act.put,Sp1,Sp2,Sp3,Sp4,Sp5,Sp6]
       refine AnyO.one (i:=12) (by kernel_rfl) rfl (by first | rfl | (simp [Region.wanted,yielded]; done) | simp [Region.wanted,yielded,undef]) ?_
       clear hO
       go_simp
       refine OnwardO.on (Owe.two (.inl (by kernel_rfl)) (.inr (k217.far (p:=⟨b18,0,none⟩) (by show b21 ≠ b18; omega) _).drew)) (fun hO => ?_)
       try simp only [Act.put,Sp1,Sp2,Sp3,Sp4,Sp5,Sp6]
       refine AnyO.one (i:=13) (by kernel_rfl) rfl (by first | rfl | (simp [Region.wanted,yielded]; done) | simp [Region.wanted,yielded,undef]) ?_
       clear hO
       obtain ⟨m0b,m1b,mfb,mzb⟩:=k187.two
       go_simp
       clear m0b m1b mfb mzb
       refine OnwardO.on (Owe.two (.inl (by kernel_rfl)) (.inl (by kernel_rfl))) (fun hO => ?_)
       try simp only [Act.put,Sp1,Sp2,Sp3,Sp4,Sp5,Sp6]
       refine AnyO.done (by kernel_rfl) ?_ _
       clear hO
       go_simp
       go_wp2_with fail
       go_roundw
       case rel => exact ⟨p + 1,z + 1,min b1 x1,max b2 x2,by omega,rfl,Lib.hid (by have:=hz.out; omega),by rw [HNX.out]; simp,Lib.hid (by rw [HNX.out]; simp only [eq_self_iff_true,if_true]; symm; rw [cov1_snoc _ _ hLn,← HB.out,hpy.out]; rfl),by omega,by have h:=((k187.set_ 0 (.int .i64 (min b1 x1))).set_ 1 (.int .i64 (max b2 x2))).drew; simpa [min_if,min_if2,min_if3,max_if,max_if2] using h,((kq7.far (by show q ≠ b18; omega) _).far (by show q ≠ b18; omega) _).drew,((I7.far k187 (by omega) 0 _).far (k187.set_ 0 _) (by omega) 1 _).bel (Below.drew (Below.refl _ _))⟩
       case measure => simp [intOf]; omega
    ·obtain rfl : p = 401:=by omega
     have hfin : smA z0 z1 es K wt n = (b1,b2):=by rw [hsa.out,HB.out,← HLJ.out]; rfl
     obtain ⟨m0,m1,mf,mz⟩:=k18.two
     obtain ⟨d0c,d1c,df,dz⟩:=I.k6.two
     go_wp2_with fail
     have kz : Bx ((w4.setCell ⟨w.heap.size + 1 + 1 + 1,0,none⟩ (.int .i64 b1)).setCell ⟨w.heap.size + 1 + 1 + 1,1,none⟩ (.int .i64 b2)) (w.heap.size + 1 + 1 + 1) 23 #[.int .i64 b1,.int .i64 b2]:=by have:=(I.k6.set_ 0 (.int .i64 b1)).set_ 1 (.int .i64 b2); simpa using this
     obtain ⟨e0,e1,_,_⟩:=kz.two
     have hBz:=(I.ls.hb.setCell (p:=⟨w.heap.size + 1 + 1 + 1,0,none⟩) (by simp; omega) (.int .i64 b1)).setCell (p:=⟨w.heap.size + 1 + 1 + 1,1,none⟩) (by simp; omega) (.int .i64 b2)
     try rw [hfin]
     refine bodyPost_ret (v:=.agg #[.int .i64 b1,.int .i64 b2]) (by simp [results,Try.results101,go_sem,e0,e1]) rfl ⟨rfl,hBz⟩
end Go.Proofs.Ytgbogdckmfencaa
