/- Paid of the program and of the reference, for all arguments. -/
import Derived.Test.YtgbogdckmfencaaRn
set_option linter.unusedSimpArgs false
set_option linter.unusedVariables false
namespace Go.Proofs.Ytgbogdckmfencaa
open Go Go.RowKit
/-- What is paid, in all cases: the error, and the two ends. -/
def pdE (ck q0 q1 E : Int) : Int:=if ck ≠ 0 then ck else if ckR q0 q1 0 1000 ≠ 0 then ckR q0 q1 0 1000 else E
def pdV (ck q0 q1 E R q : Int) : Int:=if ck = 0 ∧ ckR q0 q1 0 1000 = 0 ∧ E = 0 then cleanOf R q else 0
set_option maxRecDepth 100000 in
set_option maxHeartbeats 8000000 in
theorem paid_x (st z0 z1 : Int) (A : Option Addr) (n c : Nat) (es : List Ev) (FA : Option Addr) (fn fc : Nat) (BA : Option Addr) (bn bc : Nat) (fs bs d0 d1 : Int) (F B : List Int) (q0 q1 R1 R2 E : Int) (w : World) (hn : n ≤ 9223372036854775807) (hl : es.length = n) (hA : EvsAt w w.heap.size A es) (hfn : fn ≤ 1000) (hbn : bn ≤ 1000) (hf : F.length = fn) (hb : B.length = bn) (hF : Sl w w.heap.size 1 FA (ints F)) (hBs : Sl w w.heap.size 1 BA (ints B)) (h : NetX st z0 z1 es F B fs bs d0 d1 R1 R2 E) :
  Calls Try.prog 31 #[.agg #[.int .i64 st,.int .i64 z0,.int .i64 z1,.slice A n c],.agg #[.slice FA fn fc,.slice BA bn bc,.int .i64 fs,.int .i64 bs,.int .i64 d0,.int .i64 d1],.agg #[.int .i64 q0,.int .i64 q1]] w fun e w' => e = .returned (.tuple #[.agg #[.int .i64 (pdV (ckS st z0 z1 es F B fs bs d0 d1) q0 q1 E R1 q1),.int .i64 (pdV (ckS st z0 z1 es F B fs bs d0 d1) q0 q1 E R2 q0)],.int .i64 (pdE (ckS st z0 z1 es F B fs bs d0 d1) q0 q1 E)]) ∧ Below w.heap.size w w':=by
 have HL:=Lib.hid hl
 have HF:=Lib.hid hf
 have HBn:=Lib.hid hb
 have HX:=Lib.hid h
 have hRb:=h.bd
 unfold Bd at hRb
 dsimp only at hRb
 clear hl hf hb h
 have I:=((LS.start (st:=st) (z0:=z0) (z1:=z1) (n:=n) (c:=c) (fn:=fn) (fc:=fc) (bn:=bn) (bc:=bc) (fs:=fs) (bs:=bs) (d0:=d0) (d1:=d1) hA hF hBs).al (.cells #[.int .i64 q0,.int .i64 q1] 23)).al (.cells #[.int .i64 0,.int .i64 0] 23)
 have k5:=(Bx.at ((w.alloc (.cells #[.int .i64 st,.int .i64 z0,.int .i64 z1,.slice A n c] 26)).alloc (.cells #[.slice FA fn fc,.slice BA bn bc,.int .i64 fs,.int .i64 bs,.int .i64 d0,.int .i64 d1] 50)) 23 #[.int .i64 q0,.int .i64 q1] (n:=w.heap.size + 1 + 1) (by simp)).alloc (.cells #[.int .i64 0,.int .i64 0] 23)
 have k6:=Bx.at (((w.alloc (.cells #[.int .i64 st,.int .i64 z0,.int .i64 z1,.slice A n c] 26)).alloc (.cells #[.slice FA fn fc,.slice BA bn bc,.int .i64 fs,.int .i64 bs,.int .i64 d0,.int .i64 d1] 50)).alloc (.cells #[.int .i64 q0,.int .i64 q1] 23)) 23 #[.int .i64 0,.int .i64 0] (n:=w.heap.size + 1 + 1 + 1) (by simp)
 obtain ⟨W,hW⟩ : ∃ x,(((w.alloc (.cells #[.int .i64 st,.int .i64 z0,.int .i64 z1,.slice A n c] 26)).alloc (.cells #[.slice FA fn fc,.slice BA bn bc,.int .i64 fs,.int .i64 bs,.int .i64 d0,.int .i64 d1] 50)).alloc (.cells #[.int .i64 q0,.int .i64 q1] 23)).alloc (.cells #[.int .i64 0,.int .i64 0] 23) = x:=⟨_,rfl⟩
 rw [hW] at I k5 k6
 have HW:=Lib.hid hW
 clear hW hA hF hBs
 have hend : ∀ (X : World),Below w.heap.size w X → Bx X (w.heap.size + 1 + 1 + 1) 23 #[.int .i64 0,.int .i64 0] → ∀ a b : Int,((X.setCell ⟨w.heap.size + 1 + 1 + 1,0,none⟩ (.int .i64 a)).setCell ⟨w.heap.size + 1 + 1 + 1,1,none⟩ (.int .i64 b)).cell? ⟨w.heap.size + 1 + 1 + 1,0,none⟩ = some (.int .i64 a) ∧ ((X.setCell ⟨w.heap.size + 1 + 1 + 1,0,none⟩ (.int .i64 a)).setCell ⟨w.heap.size + 1 + 1 + 1,1,none⟩ (.int .i64 b)).cell? ⟨w.heap.size + 1 + 1 + 1,1,none⟩ = some (.int .i64 b) ∧ Below w.heap.size w ((X.setCell ⟨w.heap.size + 1 + 1 + 1,0,none⟩ (.int .i64 a)).setCell ⟨w.heap.size + 1 + 1 + 1,1,none⟩ (.int .i64 b)):=by
  intro X hX k82 a b
  have kz : Bx ((X.setCell ⟨w.heap.size + 1 + 1 + 1,0,none⟩ (.int .i64 a)).setCell ⟨w.heap.size + 1 + 1 + 1,1,none⟩ (.int .i64 b)) (w.heap.size + 1 + 1 + 1) 23 #[.int .i64 a,.int .i64 b]:=by have:=(k82.set_ 0 (.int .i64 a)).set_ 1 (.int .i64 b); simpa using this
  obtain ⟨e0,e1,_,_⟩:=kz.two
  exact ⟨e0,e1,(hX.setCell (p:=⟨w.heap.size + 1 + 1 + 1,0,none⟩) (by simp; omega) _).setCell (p:=⟨w.heap.size + 1 + 1 + 1,1,none⟩) (by simp; omega) _⟩
 have HEND:=Lib.hid hend
 clear hend
 obtain ⟨a0,a1,a2,a3,af,az⟩:=I.k1.four
 obtain ⟨s0,s1,s2,s3,s4,s5,sf,sz⟩:=I.k2.six
 obtain ⟨p0,p1,pf,pz⟩:=k5.two
 obtain ⟨r0,r1,rf,rz⟩:=k6.two
 obtain ⟨ck,hck⟩ : ∃ x,ckS st z0 z1 es F B fs bs d0 d1 = x:=⟨_,rfl⟩
 rw [hck]
 have HC:=Lib.hid hck
 clear hck
 by_cases hc0 : ck = 0
 case neg =>
  have hc1 : (ck != 0) = true:=by simpa using hc0
  have v1 : ∀ R q,pdV ck q0 q1 E R q = 0:=fun R q => if_neg (fun h => hc0 h.1)
  have v2 : pdE ck q0 q1 E = ck:=if_pos hc0
  rw [v1,v1,v2]
  clear v1 v2 hc0
  go_enter Try.func31,Try.ntmps31
  go_upto_region 1 with fail
  rw [HW.out]
  go_wp2_with (first | (go_at_call 33; refine (checkSlip_any st z0 z1 A n c es FA fn fc BA bn bc fs bs d0 d1 F B _ hn HL.out I.ev (by omega) (by omega) HF.out HBn.out I.sf I.sb).mono ?_; rintro e w1 ⟨rfl,hq⟩; replace I:=I.bel hq; replace k5:=k5.call hq; replace k6:=k6.call hq; clear hq; (try clear a0 a1 a2 a3 af az s0 s1 s2 s3 s4 s5 sf sz p0 p1 pf pz r0 r1 rf rz); obtain ⟨a0,a1,a2,a3,af,az⟩:=I.k1.four; obtain ⟨s0,s1,s2,s3,s4,s5,sf,sz⟩:=I.k2.six; obtain ⟨p0,p1,pf,pz⟩:=k5.two; obtain ⟨r0,r1,rf,rz⟩:=k6.two; rw [HC.out]) | fail)
  obtain ⟨e0,e1,eB⟩:=HEND.out _ I.hb k6 0 0
  refine bodyPost_ret (v:=.tuple #[.agg #[.int .i64 0,.int .i64 0],.int .i64 (ck)]) (by simp [results,Try.results31,go_sem,e0,e1]) rfl ⟨rfl,eB⟩
 subst hc0
 by_cases hr0 : ckR q0 q1 0 1000 = 0
 case neg =>
  obtain ⟨rr,hrr⟩ : ∃ x,ckR q0 q1 0 1000 = x:=⟨_,rfl⟩
  have v1 : ∀ R q,pdV 0 q0 q1 E R q = 0:=fun R q => if_neg (fun h => hr0 h.2.1)
  have v2 : pdE 0 q0 q1 E = rr:=by unfold pdE; rw [if_neg (fun h => h rfl),if_pos hr0,hrr]
  rw [v1,v1,v2]
  rw [hrr] at hr0
  have hc2 : (rr != 0) = true:=by simpa using hr0
  have HQ:=Lib.hid hrr
  clear v1 v2 hr0 hrr
  go_enter Try.func31,Try.ntmps31
  go_upto_region 1 with fail
  rw [HW.out]
  go_wp2_with (first | (go_at_call 33; refine (checkSlip_any st z0 z1 A n c es FA fn fc BA bn bc fs bs d0 d1 F B _ hn HL.out I.ev (by omega) (by omega) HF.out HBn.out I.sf I.sb).mono ?_; rintro e w1 ⟨rfl,hq⟩; replace I:=I.bel hq; replace k5:=k5.call hq; replace k6:=k6.call hq; clear hq; (try clear a0 a1 a2 a3 af az s0 s1 s2 s3 s4 s5 sf sz p0 p1 pf pz r0 r1 rf rz); obtain ⟨a0,a1,a2,a3,af,az⟩:=I.k1.four; obtain ⟨s0,s1,s2,s3,s4,s5,sf,sz⟩:=I.k2.six; obtain ⟨p0,p1,pf,pz⟩:=k5.two; obtain ⟨r0,r1,rf,rz⟩:=k6.two; rw [HC.out]) | (go_at_call 62; refine (checkRange_any q0 q1 0 1000 _).mono ?_; rintro e w2 ⟨rfl,hq⟩; replace I:=I.bel hq; replace k5:=k5.call hq; replace k6:=k6.call hq; clear hq; (try clear a0 a1 a2 a3 af az s0 s1 s2 s3 s4 s5 sf sz p0 p1 pf pz r0 r1 rf rz); obtain ⟨a0,a1,a2,a3,af,az⟩:=I.k1.four; obtain ⟨s0,s1,s2,s3,s4,s5,sf,sz⟩:=I.k2.six; obtain ⟨p0,p1,pf,pz⟩:=k5.two; obtain ⟨r0,r1,rf,rz⟩:=k6.two; rw [HQ.out]) | fail)
  obtain ⟨e0,e1,eB⟩:=HEND.out _ I.hb k6 0 0
  refine bodyPost_ret (v:=.tuple #[.agg #[.int .i64 0,.int .i64 0],.int .i64 (rr)]) (by simp [results,Try.results31,go_sem,e0,e1]) rfl ⟨rfl,eB⟩
 have HQ:=Lib.hid hr0
 have hqq:=ckR_zero hr0
 by_cases hE : E = 0
 case neg =>
  have hc3 : (E != 0) = true:=by simpa using hE
  have v1 : ∀ R q,pdV 0 q0 q1 E R q = 0:=fun R q => if_neg (fun h => hE h.2.2)
  have v2 : pdE 0 q0 q1 E = E:=by unfold pdE; rw [if_neg (fun h => h rfl),if_neg (fun h => h hr0)]
  rw [v1,v1,v2]
  clear v1 v2 hE hr0
  go_enter Try.func31,Try.ntmps31
  go_upto_region 1 with fail
  rw [HW.out]
  go_upto_region 8 with (first | (go_at_call 33; refine (checkSlip_any st z0 z1 A n c es FA fn fc BA bn bc fs bs d0 d1 F B _ hn HL.out I.ev (by omega) (by omega) HF.out HBn.out I.sf I.sb).mono ?_; rintro e w1 ⟨rfl,hq⟩; replace I:=I.bel hq; replace k5:=k5.call hq; replace k6:=k6.call hq; clear hq; (try clear a0 a1 a2 a3 af az s0 s1 s2 s3 s4 s5 sf sz p0 p1 pf pz r0 r1 rf rz); obtain ⟨a0,a1,a2,a3,af,az⟩:=I.k1.four; obtain ⟨s0,s1,s2,s3,s4,s5,sf,sz⟩:=I.k2.six; obtain ⟨p0,p1,pf,pz⟩:=k5.two; obtain ⟨r0,r1,rf,rz⟩:=k6.two; rw [HC.out]) | (go_at_call 62; refine (checkRange_any q0 q1 0 1000 _).mono ?_; rintro e w2 ⟨rfl,hq⟩; replace I:=I.bel hq; replace k5:=k5.call hq; replace k6:=k6.call hq; clear hq; (try clear a0 a1 a2 a3 af az s0 s1 s2 s3 s4 s5 sf sz p0 p1 pf pz r0 r1 rf rz); obtain ⟨a0,a1,a2,a3,af,az⟩:=I.k1.four; obtain ⟨s0,s1,s2,s3,s4,s5,sf,sz⟩:=I.k2.six; obtain ⟨p0,p1,pf,pz⟩:=k5.two; obtain ⟨r0,r1,rf,rz⟩:=k6.two; rw [HQ.out]) | (go_at_call 29; refine (net_x st z0 z1 A n c es FA fn fc BA bn bc fs bs d0 d1 F B R1 R2 E _ hn HL.out I.ev hfn hbn HF.out HBn.out I.sf I.sb HX.out).mono ?_; rintro e w3 ⟨rfl,hq⟩; replace I:=I.bel hq; replace k5:=k5.call hq; replace k6:=k6.call hq; clear hq; (try clear a0 a1 a2 a3 af az s0 s1 s2 s3 s4 s5 sf sz p0 p1 pf pz r0 r1 rf rz); obtain ⟨a0,a1,a2,a3,af,az⟩:=I.k1.four; obtain ⟨s0,s1,s2,s3,s4,s5,sf,sz⟩:=I.k2.six; obtain ⟨p0,p1,pf,pz⟩:=k5.two; obtain ⟨r0,r1,rf,rz⟩:=k6.two) | fail)
  have I4:=I.al (.cells #[.int .i64 R1,.int .i64 R2] 23)
  have k54:=k5.alloc (.cells #[.int .i64 R1,.int .i64 R2] 23)
  have k64:=k6.alloc (.cells #[.int .i64 R1,.int .i64 R2] 23)
  have k10:=Bx.new w3 23 #[.int .i64 R1,.int .i64 R2]
  obtain ⟨X,hX⟩ : ∃ x,w3.alloc (.cells #[.int .i64 R1,.int .i64 R2] 23) = x:=⟨_,rfl⟩
  obtain ⟨b10,hb10⟩ : ∃ x,w3.heap.size = x:=⟨_,rfl⟩
  rw [hX] at I4 k54 k64 k10 ⊢
  rw [hb10] at k10 ⊢
  clear hX hb10 I k5 k6
  clear a0 a1 a2 a3 af az s0 s1 s2 s3 s4 s5 sf sz p0 p1 pf pz r0 r1 rf rz
  obtain ⟨r0,r1,rf,rz⟩:=k64.two
  go_wp2_with fail
  obtain ⟨e0,e1,eB⟩:=HEND.out _ I4.hb k64 0 0
  refine bodyPost_ret (v:=.tuple #[.agg #[.int .i64 0,.int .i64 0],.int .i64 (E)]) (by simp [results,Try.results31,go_sem,e0,e1]) rfl ⟨rfl,eB⟩
 subst hE
 have v1 : ∀ R q,pdV 0 q0 q1 0 R q = cleanOf R q:=fun R q => if_pos ⟨rfl,hr0,rfl⟩
 have v2 : pdE 0 q0 q1 0 = 0:=by unfold pdE; rw [if_neg (fun h => h rfl),if_neg (fun h => h hr0)]
 rw [v1,v1,v2]
 obtain ⟨C1,hC1⟩ : ∃ x,cleanOf R1 q1 = x:=⟨_,rfl⟩
 obtain ⟨C2,hC2⟩ : ∃ x,cleanOf R2 q0 = x:=⟨_,rfl⟩
 rw [hC1,hC2]
 have HCL:=Lib.hid (show max 0 R1 * (1000 - q1) / 1000 = C1 ∧ max 0 R2 * (1000 - q0) / 1000 = C2 from ⟨hC1,hC2⟩)
 clear v1 v2 hr0 hC1 hC2
 go_enter Try.func31,Try.ntmps31
 go_upto_region 1 with fail
 rw [HW.out]
 go_upto_region 8 with (first | (go_at_call 33; refine (checkSlip_any st z0 z1 A n c es FA fn fc BA bn bc fs bs d0 d1 F B _ hn HL.out I.ev (by omega) (by omega) HF.out HBn.out I.sf I.sb).mono ?_; rintro e w1 ⟨rfl,hq⟩; replace I:=I.bel hq; replace k5:=k5.call hq; replace k6:=k6.call hq; clear hq; (try clear a0 a1 a2 a3 af az s0 s1 s2 s3 s4 s5 sf sz p0 p1 pf pz r0 r1 rf rz); obtain ⟨a0,a1,a2,a3,af,az⟩:=I.k1.four; obtain ⟨s0,s1,s2,s3,s4,s5,sf,sz⟩:=I.k2.six; obtain ⟨p0,p1,pf,pz⟩:=k5.two; obtain ⟨r0,r1,rf,rz⟩:=k6.two; rw [HC.out]) | (go_at_call 62; refine (checkRange_any q0 q1 0 1000 _).mono ?_; rintro e w2 ⟨rfl,hq⟩; replace I:=I.bel hq; replace k5:=k5.call hq; replace k6:=k6.call hq; clear hq; (try clear a0 a1 a2 a3 af az s0 s1 s2 s3 s4 s5 sf sz p0 p1 pf pz r0 r1 rf rz); obtain ⟨a0,a1,a2,a3,af,az⟩:=I.k1.four; obtain ⟨s0,s1,s2,s3,s4,s5,sf,sz⟩:=I.k2.six; obtain ⟨p0,p1,pf,pz⟩:=k5.two; obtain ⟨r0,r1,rf,rz⟩:=k6.two; rw [HQ.out]) | (go_at_call 29; refine (net_x st z0 z1 A n c es FA fn fc BA bn bc fs bs d0 d1 F B R1 R2 0 _ hn HL.out I.ev hfn hbn HF.out HBn.out I.sf I.sb HX.out).mono ?_; rintro e w3 ⟨rfl,hq⟩; replace I:=I.bel hq; replace k5:=k5.call hq; replace k6:=k6.call hq; clear hq; (try clear a0 a1 a2 a3 af az s0 s1 s2 s3 s4 s5 sf sz p0 p1 pf pz r0 r1 rf rz); obtain ⟨a0,a1,a2,a3,af,az⟩:=I.k1.four; obtain ⟨s0,s1,s2,s3,s4,s5,sf,sz⟩:=I.k2.six; obtain ⟨p0,p1,pf,pz⟩:=k5.two; obtain ⟨r0,r1,rf,rz⟩:=k6.two) | fail)
 have I4:=I.al (.cells #[.int .i64 R1,.int .i64 R2] 23)
 have k54:=k5.alloc (.cells #[.int .i64 R1,.int .i64 R2] 23)
 have k64:=k6.alloc (.cells #[.int .i64 R1,.int .i64 R2] 23)
 have k10:=Bx.new w3 23 #[.int .i64 R1,.int .i64 R2]
 obtain ⟨X,hX⟩ : ∃ x,w3.alloc (.cells #[.int .i64 R1,.int .i64 R2] 23) = x:=⟨_,rfl⟩
 obtain ⟨b10,hb10⟩ : ∃ x,w3.heap.size = x:=⟨_,rfl⟩
 rw [hX] at I4 k54 k64 k10 ⊢
 rw [hb10] at k10 ⊢
 clear hX hb10 I k5 k6
 clear a0 a1 a2 a3 af az s0 s1 s2 s3 s4 s5 sf sz p0 p1 pf pz r0 r1 rf rz
 go_upto_region 10 with fail
 refine AnyG.startC (by kernel_rfl) ?_
 refine AnyG.takeP (i:=0) (v:=?_) rfl (by kernel_rfl) (fun _ _ _ h => h) rfl ?_ ?_
 rotate_left
 ·(intro w'; go_simp; try with_reducible rfl)
 try simp only [Act.put,Sp1,Sp2,Sp3,Sp4,Sp5,Sp6]
 refine AnyG.takeP (i:=2) (v:=?_) rfl (by kernel_rfl) (fun _ _ _ h => h) rfl ?_ ?_
 rotate_left
 ·(intro w'; go_simp; try with_reducible rfl)
 try simp only [Act.put,Sp1,Sp2,Sp3,Sp4,Sp5,Sp6]
 refine AnyG.takeP (i:=5) (v:=?_) rfl (by kernel_rfl) (fun _ _ _ h => h) rfl ?_ ?_
 rotate_left
 ·(intro w'; go_simp; try with_reducible rfl)
 try simp only [Act.put,Sp1,Sp2,Sp3,Sp4,Sp5,Sp6]
 refine AnyG.takeP (i:=7) (v:=?_) rfl (by kernel_rfl) (fun _ _ _ h => h) rfl ?_ ?_
 rotate_left
 ·(intro w'; go_simp; try with_reducible rfl)
 try simp only [Act.put,Sp1,Sp2,Sp3,Sp4,Sp5,Sp6]
 refine AnyG.enter (fun w' : World => Below X.heap.size X w') (fun i => i != 12 && i != 11) ?_
 have hS : (fun w' : World => Below X.heap.size X w') (World.drew _):=Below.drew (Below.refl _ _)
 refine AnyG.takeC (i:=1) (v:=?_) rfl (by kernel_rfl) (fun _ _ _ h => h) rfl ?_ hS ?_
 rotate_left
 ·(intro w' hSw; (try dsimp only at hSw); obtain ⟨m0,m1,mf,mz⟩:=(k10.call hSw).two; go_simp; try with_reducible rfl)
 try simp only [Act.put,Sp1,Sp2,Sp3,Sp4,Sp5,Sp6]
 refine AnyG.takeC (i:=3) (v:=?_) rfl (by kernel_rfl) (fun _ _ _ h => h) rfl ?_ hS ?_
 rotate_left
 ·(intro w' hSw; (try dsimp only at hSw); obtain ⟨p0,p1,pf,pz⟩:=(k54.call hSw).two; go_simp; try with_reducible rfl)
 try simp only [Act.put,Sp1,Sp2,Sp3,Sp4,Sp5,Sp6]
 refine AnyG.takeC (i:=6) (v:=?_) rfl (by kernel_rfl) (fun _ _ _ h => h) rfl ?_ hS ?_
 rotate_left
 ·(intro w' hSw; (try dsimp only at hSw); obtain ⟨m0,m1,mf,mz⟩:=(k10.call hSw).two; go_simp; try with_reducible rfl)
 try simp only [Act.put,Sp1,Sp2,Sp3,Sp4,Sp5,Sp6]
 refine AnyG.takeC (i:=8) (v:=?_) rfl (by kernel_rfl) (fun _ _ _ h => h) rfl ?_ hS ?_
 rotate_left
 ·(intro w' hSw; (try dsimp only at hSw); obtain ⟨p0,p1,pf,pz⟩:=(k54.call hSw).two; go_simp; try with_reducible rfl)
 try simp only [Act.put,Sp1,Sp2,Sp3,Sp4,Sp5,Sp6]
 refine AnyG.one (i:=4) (by kernel_rfl) rfl rfl ?_
 go_simp
 refine (clean_any R1 q1 _ (by omega) (by omega) (by omega) (by omega)).mono ?_
 rintro er u4 ⟨rfl,rfl⟩
 rw [HCL.out.1]
 refine Onward.on hS (fun hS2 => ?_)
 clear hS
 have hS:=hS2
 clear hS2
 try simp only [Act.put,Sp1,Sp2,Sp3,Sp4,Sp5,Sp6]
 refine AnyG.one (i:=9) (by kernel_rfl) rfl rfl ?_
 go_simp
 refine (clean_any R2 q0 _ (by omega) (by omega) (by omega) (by omega)).mono ?_
 rintro er u9 ⟨rfl,rfl⟩
 rw [HCL.out.2]
 refine Onward.on hS (fun hS2 => ?_)
 clear hS
 have hS:=hS2
 clear hS2
 try simp only [Act.put,Sp1,Sp2,Sp3,Sp4,Sp5,Sp6]
 refine AnyG.takeC (i:=10) (v:=?_) rfl (by kernel_rfl) (fun _ _ _ h => h) rfl ?_ hS ?_
 rotate_left
 ·(intro w' hSw; (try dsimp only at hSw); go_simp; try with_reducible rfl)
 try simp only [Act.put,Sp1,Sp2,Sp3,Sp4,Sp5,Sp6]
 refine AnyG.one (i:=11) (by kernel_rfl) rfl rfl ?_
 obtain ⟨r0,r1,rf,rz⟩:=(k64.call hS).two
 obtain ⟨r0b,r1b,rfb,rzb⟩:=k64.two
 go_simp
 refine Onward.last rfl ?_
 try simp only [Act.put,Sp1,Sp2,Sp3,Sp4,Sp5,Sp6]
 refine AnyG.one (i:=12) (by kernel_rfl) rfl rfl ?_
 go_simp
 refine Onward.last rfl ?_
 try simp only [Act.put,Sp1,Sp2,Sp3,Sp4,Sp5,Sp6]
 refine AnyG.done (by kernel_rfl) ?_ _
 go_simp
 go_wp2_with fail
 try dsimp only at hS
 obtain ⟨e0,e1,eB⟩:=HEND.out _ I4.hb k64 C1 C2
 refine bodyPost_ret (v:=.tuple #[.agg #[.int .i64 C1,.int .i64 C2],.int .i64 0]) (by simp [results,Try.results31,go_sem,e0,e1]) rfl ⟨rfl,eB.drew⟩
set_option maxRecDepth 100000 in
set_option maxHeartbeats 8000000 in
theorem refPaid_x (st z0 z1 : Int) (A : Option Addr) (n c : Nat) (es : List Ev) (FA : Option Addr) (fn fc : Nat) (BA : Option Addr) (bn bc : Nat) (fs bs d0 d1 : Int) (F B : List Int) (q0 q1 R1 R2 E : Int) (w : World) (hn : n ≤ 9223372036854775807) (hl : es.length = n) (hA : EvsAt w w.heap.size A es) (hfn : fn ≤ 1000) (hbn : bn ≤ 1000) (hf : F.length = fn) (hb : B.length = bn) (hF : Sl w w.heap.size 1 FA (ints F)) (hBs : Sl w w.heap.size 1 BA (ints B)) (h : NetX st z0 z1 es F B fs bs d0 d1 R1 R2 E) :
  Calls Try.prog 32 #[.agg #[.int .i64 st,.int .i64 z0,.int .i64 z1,.slice A n c],.agg #[.slice FA fn fc,.slice BA bn bc,.int .i64 fs,.int .i64 bs,.int .i64 d0,.int .i64 d1],.agg #[.int .i64 q0,.int .i64 q1]] w fun e w' => e = .returned (.tuple #[.agg #[.int .i64 (pdV (ckS st z0 z1 es F B fs bs d0 d1) q0 q1 E R1 q1),.int .i64 (pdV (ckS st z0 z1 es F B fs bs d0 d1) q0 q1 E R2 q0)],.int .i64 (pdE (ckS st z0 z1 es F B fs bs d0 d1) q0 q1 E)]) ∧ Below w.heap.size w w':=by
 have HL:=Lib.hid hl
 have HF:=Lib.hid hf
 have HBn:=Lib.hid hb
 have HX:=Lib.hid h
 have hRb:=h.bd
 unfold Bd at hRb
 dsimp only at hRb
 clear hl hf hb h
 have I:=((LS.start (st:=st) (z0:=z0) (z1:=z1) (n:=n) (c:=c) (fn:=fn) (fc:=fc) (bn:=bn) (bc:=bc) (fs:=fs) (bs:=bs) (d0:=d0) (d1:=d1) hA hF hBs).al (.cells #[.int .i64 q0,.int .i64 q1] 23)).al (.cells #[.int .i64 0,.int .i64 0] 23)
 have k5:=(Bx.at ((w.alloc (.cells #[.int .i64 st,.int .i64 z0,.int .i64 z1,.slice A n c] 26)).alloc (.cells #[.slice FA fn fc,.slice BA bn bc,.int .i64 fs,.int .i64 bs,.int .i64 d0,.int .i64 d1] 50)) 23 #[.int .i64 q0,.int .i64 q1] (n:=w.heap.size + 1 + 1) (by simp)).alloc (.cells #[.int .i64 0,.int .i64 0] 23)
 have k6:=Bx.at (((w.alloc (.cells #[.int .i64 st,.int .i64 z0,.int .i64 z1,.slice A n c] 26)).alloc (.cells #[.slice FA fn fc,.slice BA bn bc,.int .i64 fs,.int .i64 bs,.int .i64 d0,.int .i64 d1] 50)).alloc (.cells #[.int .i64 q0,.int .i64 q1] 23)) 23 #[.int .i64 0,.int .i64 0] (n:=w.heap.size + 1 + 1 + 1) (by simp)
 obtain ⟨W,hW⟩ : ∃ x,(((w.alloc (.cells #[.int .i64 st,.int .i64 z0,.int .i64 z1,.slice A n c] 26)).alloc (.cells #[.slice FA fn fc,.slice BA bn bc,.int .i64 fs,.int .i64 bs,.int .i64 d0,.int .i64 d1] 50)).alloc (.cells #[.int .i64 q0,.int .i64 q1] 23)).alloc (.cells #[.int .i64 0,.int .i64 0] 23) = x:=⟨_,rfl⟩
 rw [hW] at I k5 k6
 have HW:=Lib.hid hW
 clear hW hA hF hBs
 have hend : ∀ (X : World),Below w.heap.size w X → Bx X (w.heap.size + 1 + 1 + 1) 23 #[.int .i64 0,.int .i64 0] → ∀ a b : Int,((X.setCell ⟨w.heap.size + 1 + 1 + 1,0,none⟩ (.int .i64 a)).setCell ⟨w.heap.size + 1 + 1 + 1,1,none⟩ (.int .i64 b)).cell? ⟨w.heap.size + 1 + 1 + 1,0,none⟩ = some (.int .i64 a) ∧ ((X.setCell ⟨w.heap.size + 1 + 1 + 1,0,none⟩ (.int .i64 a)).setCell ⟨w.heap.size + 1 + 1 + 1,1,none⟩ (.int .i64 b)).cell? ⟨w.heap.size + 1 + 1 + 1,1,none⟩ = some (.int .i64 b) ∧ Below w.heap.size w ((X.setCell ⟨w.heap.size + 1 + 1 + 1,0,none⟩ (.int .i64 a)).setCell ⟨w.heap.size + 1 + 1 + 1,1,none⟩ (.int .i64 b)):=by
  intro X hX k82 a b
  have kz : Bx ((X.setCell ⟨w.heap.size + 1 + 1 + 1,0,none⟩ (.int .i64 a)).setCell ⟨w.heap.size + 1 + 1 + 1,1,none⟩ (.int .i64 b)) (w.heap.size + 1 + 1 + 1) 23 #[.int .i64 a,.int .i64 b]:=by have:=(k82.set_ 0 (.int .i64 a)).set_ 1 (.int .i64 b); simpa using this
  obtain ⟨e0,e1,_,_⟩:=kz.two
  exact ⟨e0,e1,(hX.setCell (p:=⟨w.heap.size + 1 + 1 + 1,0,none⟩) (by simp; omega) _).setCell (p:=⟨w.heap.size + 1 + 1 + 1,1,none⟩) (by simp; omega) _⟩
 have HEND:=Lib.hid hend
 clear hend
 obtain ⟨a0,a1,a2,a3,af,az⟩:=I.k1.four
 obtain ⟨s0,s1,s2,s3,s4,s5,sf,sz⟩:=I.k2.six
 obtain ⟨p0,p1,pf,pz⟩:=k5.two
 obtain ⟨r0,r1,rf,rz⟩:=k6.two
 obtain ⟨ck,hck⟩ : ∃ x,ckS st z0 z1 es F B fs bs d0 d1 = x:=⟨_,rfl⟩
 rw [hck]
 have HC:=Lib.hid hck
 clear hck
 by_cases hc0 : ck = 0
 case neg =>
  have hc1 : (ck != 0) = true:=by simpa using hc0
  have v1 : ∀ R q,pdV ck q0 q1 E R q = 0:=fun R q => if_neg (fun h => hc0 h.1)
  have v2 : pdE ck q0 q1 E = ck:=if_pos hc0
  rw [v1,v1,v2]
  clear v1 v2 hc0
  go_enter Try.func32,Try.ntmps32
  go_upto_region 1 with fail
  rw [HW.out]
  go_wp2_with (first | (go_at_call 34; refine (refSlip_any st z0 z1 A n c es FA fn fc BA bn bc fs bs d0 d1 F B _ hn HL.out I.ev hfn hbn HF.out HBn.out I.sf I.sb).mono ?_; rintro e w1 ⟨rfl,hq⟩; replace I:=I.bel hq; replace k5:=k5.call hq; replace k6:=k6.call hq; clear hq; (try clear a0 a1 a2 a3 af az s0 s1 s2 s3 s4 s5 sf sz p0 p1 pf pz r0 r1 rf rz); obtain ⟨a0,a1,a2,a3,af,az⟩:=I.k1.four; obtain ⟨s0,s1,s2,s3,s4,s5,sf,sz⟩:=I.k2.six; obtain ⟨p0,p1,pf,pz⟩:=k5.two; obtain ⟨r0,r1,rf,rz⟩:=k6.two; rw [HC.out]) | fail)
  obtain ⟨e0,e1,eB⟩:=HEND.out _ I.hb k6 0 0
  refine bodyPost_ret (v:=.tuple #[.agg #[.int .i64 0,.int .i64 0],.int .i64 (ck)]) (by simp [results,Try.results32,go_sem,e0,e1]) rfl ⟨rfl,eB⟩
 subst hc0
 by_cases hr0 : ckR q0 q1 0 1000 = 0
 case neg =>
  obtain ⟨rr,hrr⟩ : ∃ x,ckR q0 q1 0 1000 = x:=⟨_,rfl⟩
  have v1 : ∀ R q,pdV 0 q0 q1 E R q = 0:=fun R q => if_neg (fun h => hr0 h.2.1)
  have v2 : pdE 0 q0 q1 E = rr:=by unfold pdE; rw [if_neg (fun h => h rfl),if_pos hr0,hrr]
  rw [v1,v1,v2]
  rw [hrr] at hr0
  have hc2 : (rr != 0) = true:=by simpa using hr0
  have HQ:=Lib.hid hrr
  clear v1 v2 hr0 hrr
  go_enter Try.func32,Try.ntmps32
  go_upto_region 1 with fail
  rw [HW.out]
  go_wp2_with (first | (go_at_call 34; refine (refSlip_any st z0 z1 A n c es FA fn fc BA bn bc fs bs d0 d1 F B _ hn HL.out I.ev hfn hbn HF.out HBn.out I.sf I.sb).mono ?_; rintro e w1 ⟨rfl,hq⟩; replace I:=I.bel hq; replace k5:=k5.call hq; replace k6:=k6.call hq; clear hq; (try clear a0 a1 a2 a3 af az s0 s1 s2 s3 s4 s5 sf sz p0 p1 pf pz r0 r1 rf rz); obtain ⟨a0,a1,a2,a3,af,az⟩:=I.k1.four; obtain ⟨s0,s1,s2,s3,s4,s5,sf,sz⟩:=I.k2.six; obtain ⟨p0,p1,pf,pz⟩:=k5.two; obtain ⟨r0,r1,rf,rz⟩:=k6.two; rw [HC.out]) | (go_at_call 65; refine (refRange_any q0 q1 0 1000 _).mono ?_; rintro e w2 ⟨rfl,hq⟩; replace I:=I.bel hq; replace k5:=k5.call hq; replace k6:=k6.call hq; clear hq; (try clear a0 a1 a2 a3 af az s0 s1 s2 s3 s4 s5 sf sz p0 p1 pf pz r0 r1 rf rz); obtain ⟨a0,a1,a2,a3,af,az⟩:=I.k1.four; obtain ⟨s0,s1,s2,s3,s4,s5,sf,sz⟩:=I.k2.six; obtain ⟨p0,p1,pf,pz⟩:=k5.two; obtain ⟨r0,r1,rf,rz⟩:=k6.two; rw [HQ.out]) | fail)
  obtain ⟨e0,e1,eB⟩:=HEND.out _ I.hb k6 0 0
  refine bodyPost_ret (v:=.tuple #[.agg #[.int .i64 0,.int .i64 0],.int .i64 (rr)]) (by simp [results,Try.results32,go_sem,e0,e1]) rfl ⟨rfl,eB⟩
 have HQ:=Lib.hid hr0
 have hqq:=ckR_zero hr0
 by_cases hE : E = 0
 case neg =>
  have hc3 : (E != 0) = true:=by simpa using hE
  have v1 : ∀ R q,pdV 0 q0 q1 E R q = 0:=fun R q => if_neg (fun h => hE h.2.2)
  have v2 : pdE 0 q0 q1 E = E:=by unfold pdE; rw [if_neg (fun h => h rfl),if_neg (fun h => h hr0)]
  rw [v1,v1,v2]
  clear v1 v2 hE hr0
  go_enter Try.func32,Try.ntmps32
  go_upto_region 1 with fail
  rw [HW.out]
  go_upto_region 8 with (first | (go_at_call 34; refine (refSlip_any st z0 z1 A n c es FA fn fc BA bn bc fs bs d0 d1 F B _ hn HL.out I.ev hfn hbn HF.out HBn.out I.sf I.sb).mono ?_; rintro e w1 ⟨rfl,hq⟩; replace I:=I.bel hq; replace k5:=k5.call hq; replace k6:=k6.call hq; clear hq; (try clear a0 a1 a2 a3 af az s0 s1 s2 s3 s4 s5 sf sz p0 p1 pf pz r0 r1 rf rz); obtain ⟨a0,a1,a2,a3,af,az⟩:=I.k1.four; obtain ⟨s0,s1,s2,s3,s4,s5,sf,sz⟩:=I.k2.six; obtain ⟨p0,p1,pf,pz⟩:=k5.two; obtain ⟨r0,r1,rf,rz⟩:=k6.two; rw [HC.out]) | (go_at_call 65; refine (refRange_any q0 q1 0 1000 _).mono ?_; rintro e w2 ⟨rfl,hq⟩; replace I:=I.bel hq; replace k5:=k5.call hq; replace k6:=k6.call hq; clear hq; (try clear a0 a1 a2 a3 af az s0 s1 s2 s3 s4 s5 sf sz p0 p1 pf pz r0 r1 rf rz); obtain ⟨a0,a1,a2,a3,af,az⟩:=I.k1.four; obtain ⟨s0,s1,s2,s3,s4,s5,sf,sz⟩:=I.k2.six; obtain ⟨p0,p1,pf,pz⟩:=k5.two; obtain ⟨r0,r1,rf,rz⟩:=k6.two; rw [HQ.out]) | (go_at_call 30; refine (refNet_x st z0 z1 A n c es FA fn fc BA bn bc fs bs d0 d1 F B R1 R2 E _ hn HL.out I.ev hfn hbn HF.out HBn.out I.sf I.sb HX.out).mono ?_; rintro e w3 ⟨rfl,hq⟩; replace I:=I.bel hq; replace k5:=k5.call hq; replace k6:=k6.call hq; clear hq; (try clear a0 a1 a2 a3 af az s0 s1 s2 s3 s4 s5 sf sz p0 p1 pf pz r0 r1 rf rz); obtain ⟨a0,a1,a2,a3,af,az⟩:=I.k1.four; obtain ⟨s0,s1,s2,s3,s4,s5,sf,sz⟩:=I.k2.six; obtain ⟨p0,p1,pf,pz⟩:=k5.two; obtain ⟨r0,r1,rf,rz⟩:=k6.two) | fail)
  have I4:=I.al (.cells #[.int .i64 R1,.int .i64 R2] 23)
  have k54:=k5.alloc (.cells #[.int .i64 R1,.int .i64 R2] 23)
  have k64:=k6.alloc (.cells #[.int .i64 R1,.int .i64 R2] 23)
  have k10:=Bx.new w3 23 #[.int .i64 R1,.int .i64 R2]
  obtain ⟨X,hX⟩ : ∃ x,w3.alloc (.cells #[.int .i64 R1,.int .i64 R2] 23) = x:=⟨_,rfl⟩
  obtain ⟨b10,hb10⟩ : ∃ x,w3.heap.size = x:=⟨_,rfl⟩
  rw [hX] at I4 k54 k64 k10 ⊢
  rw [hb10] at k10 ⊢
  clear hX hb10 I k5 k6
  clear a0 a1 a2 a3 af az s0 s1 s2 s3 s4 s5 sf sz p0 p1 pf pz r0 r1 rf rz
  obtain ⟨r0,r1,rf,rz⟩:=k64.two
  go_wp2_with fail
  obtain ⟨e0,e1,eB⟩:=HEND.out _ I4.hb k64 0 0
  refine bodyPost_ret (v:=.tuple #[.agg #[.int .i64 0,.int .i64 0],.int .i64 (E)]) (by simp [results,Try.results32,go_sem,e0,e1]) rfl ⟨rfl,eB⟩
 subst hE
 have v1 : ∀ R q,pdV 0 q0 q1 0 R q = cleanOf R q:=fun R q => if_pos ⟨rfl,hr0,rfl⟩
 have v2 : pdE 0 q0 q1 0 = 0:=by unfold pdE; rw [if_neg (fun h => h rfl),if_neg (fun h => h hr0)]
 rw [v1,v1,v2]
 obtain ⟨C1,hC1⟩ : ∃ x,cleanOf R1 q1 = x:=⟨_,rfl⟩
 obtain ⟨C2,hC2⟩ : ∃ x,cleanOf R2 q0 = x:=⟨_,rfl⟩
 rw [hC1,hC2]
 have HCL:=Lib.hid (show max 0 R1 * (1000 - q1) / 1000 = C1 ∧ max 0 R2 * (1000 - q0) / 1000 = C2 from ⟨hC1,hC2⟩)
 clear v1 v2 hr0 hC1 hC2
 go_enter Try.func32,Try.ntmps32
 go_upto_region 1 with fail
 rw [HW.out]
 go_upto_region 8 with (first | (go_at_call 34; refine (refSlip_any st z0 z1 A n c es FA fn fc BA bn bc fs bs d0 d1 F B _ hn HL.out I.ev hfn hbn HF.out HBn.out I.sf I.sb).mono ?_; rintro e w1 ⟨rfl,hq⟩; replace I:=I.bel hq; replace k5:=k5.call hq; replace k6:=k6.call hq; clear hq; (try clear a0 a1 a2 a3 af az s0 s1 s2 s3 s4 s5 sf sz p0 p1 pf pz r0 r1 rf rz); obtain ⟨a0,a1,a2,a3,af,az⟩:=I.k1.four; obtain ⟨s0,s1,s2,s3,s4,s5,sf,sz⟩:=I.k2.six; obtain ⟨p0,p1,pf,pz⟩:=k5.two; obtain ⟨r0,r1,rf,rz⟩:=k6.two; rw [HC.out]) | (go_at_call 65; refine (refRange_any q0 q1 0 1000 _).mono ?_; rintro e w2 ⟨rfl,hq⟩; replace I:=I.bel hq; replace k5:=k5.call hq; replace k6:=k6.call hq; clear hq; (try clear a0 a1 a2 a3 af az s0 s1 s2 s3 s4 s5 sf sz p0 p1 pf pz r0 r1 rf rz); obtain ⟨a0,a1,a2,a3,af,az⟩:=I.k1.four; obtain ⟨s0,s1,s2,s3,s4,s5,sf,sz⟩:=I.k2.six; obtain ⟨p0,p1,pf,pz⟩:=k5.two; obtain ⟨r0,r1,rf,rz⟩:=k6.two; rw [HQ.out]) | (go_at_call 30; refine (refNet_x st z0 z1 A n c es FA fn fc BA bn bc fs bs d0 d1 F B R1 R2 0 _ hn HL.out I.ev hfn hbn HF.out HBn.out I.sf I.sb HX.out).mono ?_; rintro e w3 ⟨rfl,hq⟩; replace I:=I.bel hq; replace k5:=k5.call hq; replace k6:=k6.call hq; clear hq; (try clear a0 a1 a2 a3 af az s0 s1 s2 s3 s4 s5 sf sz p0 p1 pf pz r0 r1 rf rz); obtain ⟨a0,a1,a2,a3,af,az⟩:=I.k1.four; obtain ⟨s0,s1,s2,s3,s4,s5,sf,sz⟩:=I.k2.six; obtain ⟨p0,p1,pf,pz⟩:=k5.two; obtain ⟨r0,r1,rf,rz⟩:=k6.two) | fail)
 have I4:=I.al (.cells #[.int .i64 R1,.int .i64 R2] 23)
 have k54:=k5.alloc (.cells #[.int .i64 R1,.int .i64 R2] 23)
 have k64:=k6.alloc (.cells #[.int .i64 R1,.int .i64 R2] 23)
 have k10:=Bx.new w3 23 #[.int .i64 R1,.int .i64 R2]
 obtain ⟨X,hX⟩ : ∃ x,w3.alloc (.cells #[.int .i64 R1,.int .i64 R2] 23) = x:=⟨_,rfl⟩
 obtain ⟨b10,hb10⟩ : ∃ x,w3.heap.size = x:=⟨_,rfl⟩
 rw [hX] at I4 k54 k64 k10 ⊢
 rw [hb10] at k10 ⊢
 clear hX hb10 I k5 k6
 clear a0 a1 a2 a3 af az s0 s1 s2 s3 s4 s5 sf sz p0 p1 pf pz r0 r1 rf rz
 go_upto_region 10 with fail
 refine AnyG.startC (by kernel_rfl) ?_
 refine AnyG.takeP (i:=0) (v:=?_) rfl (by kernel_rfl) (fun _ _ _ h => h) rfl ?_ ?_
 rotate_left
 ·(intro w'; go_simp; try with_reducible rfl)
 try simp only [Act.put,Sp1,Sp2,Sp3,Sp4,Sp5,Sp6]
 refine AnyG.takeP (i:=2) (v:=?_) rfl (by kernel_rfl) (fun _ _ _ h => h) rfl ?_ ?_
 rotate_left
 ·(intro w'; go_simp; try with_reducible rfl)
 try simp only [Act.put,Sp1,Sp2,Sp3,Sp4,Sp5,Sp6]
 refine AnyG.takeP (i:=5) (v:=?_) rfl (by kernel_rfl) (fun _ _ _ h => h) rfl ?_ ?_
 rotate_left
 ·(intro w'; go_simp; try with_reducible rfl)
 try simp only [Act.put,Sp1,Sp2,Sp3,Sp4,Sp5,Sp6]
 refine AnyG.takeP (i:=7) (v:=?_) rfl (by kernel_rfl) (fun _ _ _ h => h) rfl ?_ ?_
 rotate_left
 ·(intro w'; go_simp; try with_reducible rfl)
 try simp only [Act.put,Sp1,Sp2,Sp3,Sp4,Sp5,Sp6]
 refine AnyG.enter (fun w' : World => Below X.heap.size X w') (fun i => i != 12 && i != 11) ?_
 have hS : (fun w' : World => Below X.heap.size X w') (World.drew _):=Below.drew (Below.refl _ _)
 refine AnyG.takeC (i:=1) (v:=?_) rfl (by kernel_rfl) (fun _ _ _ h => h) rfl ?_ hS ?_
 rotate_left
 ·(intro w' hSw; (try dsimp only at hSw); obtain ⟨m0,m1,mf,mz⟩:=(k10.call hSw).two; go_simp; try with_reducible rfl)
 try simp only [Act.put,Sp1,Sp2,Sp3,Sp4,Sp5,Sp6]
 refine AnyG.takeC (i:=3) (v:=?_) rfl (by kernel_rfl) (fun _ _ _ h => h) rfl ?_ hS ?_
 rotate_left
 ·(intro w' hSw; (try dsimp only at hSw); obtain ⟨p0,p1,pf,pz⟩:=(k54.call hSw).two; go_simp; try with_reducible rfl)
 try simp only [Act.put,Sp1,Sp2,Sp3,Sp4,Sp5,Sp6]
 refine AnyG.takeC (i:=6) (v:=?_) rfl (by kernel_rfl) (fun _ _ _ h => h) rfl ?_ hS ?_
 rotate_left
 ·(intro w' hSw; (try dsimp only at hSw); obtain ⟨m0,m1,mf,mz⟩:=(k10.call hSw).two; go_simp; try with_reducible rfl)
 try simp only [Act.put,Sp1,Sp2,Sp3,Sp4,Sp5,Sp6]
 refine AnyG.takeC (i:=8) (v:=?_) rfl (by kernel_rfl) (fun _ _ _ h => h) rfl ?_ hS ?_
 rotate_left
 ·(intro w' hSw; (try dsimp only at hSw); obtain ⟨p0,p1,pf,pz⟩:=(k54.call hSw).two; go_simp; try with_reducible rfl)
 try simp only [Act.put,Sp1,Sp2,Sp3,Sp4,Sp5,Sp6]
 refine AnyG.one (i:=4) (by kernel_rfl) rfl rfl ?_
 go_simp
 refine (refPay_any R1 q1 _ (by omega) (by omega) (by omega) (by omega)).mono ?_
 rintro er u4 ⟨rfl,rfl⟩
 rw [HCL.out.1]
 refine Onward.on hS (fun hS2 => ?_)
 clear hS
 have hS:=hS2
 clear hS2
 try simp only [Act.put,Sp1,Sp2,Sp3,Sp4,Sp5,Sp6]
 refine AnyG.one (i:=9) (by kernel_rfl) rfl rfl ?_
 go_simp
 refine (refPay_any R2 q0 _ (by omega) (by omega) (by omega) (by omega)).mono ?_
 rintro er u9 ⟨rfl,rfl⟩
 rw [HCL.out.2]
 refine Onward.on hS (fun hS2 => ?_)
 clear hS
 have hS:=hS2
 clear hS2
 try simp only [Act.put,Sp1,Sp2,Sp3,Sp4,Sp5,Sp6]
 refine AnyG.takeC (i:=10) (v:=?_) rfl (by kernel_rfl) (fun _ _ _ h => h) rfl ?_ hS ?_
 rotate_left
 ·(intro w' hSw; (try dsimp only at hSw); go_simp; try with_reducible rfl)
 try simp only [Act.put,Sp1,Sp2,Sp3,Sp4,Sp5,Sp6]
 refine AnyG.one (i:=11) (by kernel_rfl) rfl rfl ?_
 obtain ⟨r0,r1,rf,rz⟩:=(k64.call hS).two
 obtain ⟨r0b,r1b,rfb,rzb⟩:=k64.two
 go_simp
 refine Onward.last rfl ?_
 try simp only [Act.put,Sp1,Sp2,Sp3,Sp4,Sp5,Sp6]
 refine AnyG.one (i:=12) (by kernel_rfl) rfl rfl ?_
 go_simp
 refine Onward.last rfl ?_
 try simp only [Act.put,Sp1,Sp2,Sp3,Sp4,Sp5,Sp6]
 refine AnyG.done (by kernel_rfl) ?_ _
 go_simp
 go_wp2_with fail
 try dsimp only at hS
 obtain ⟨e0,e1,eB⟩:=HEND.out _ I4.hb k64 C1 C2
 refine bodyPost_ret (v:=.tuple #[.agg #[.int .i64 C1,.int .i64 C2],.int .i64 0]) (by simp [results,Try.results32,go_sem,e0,e1]) rfl ⟨rfl,eB.drew⟩
end Go.Proofs.Ytgbogdckmfencaa
