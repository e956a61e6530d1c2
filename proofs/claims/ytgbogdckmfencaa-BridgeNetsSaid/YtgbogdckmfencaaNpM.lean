/- The reference's CheckSlip. -/
import Derived.Test.YtgbogdckmfencaaAm
import Derived.Test.YtgbogdckmfencaaRfM
import Derived.Test.YtgbogdckmfencaaZbM
import Derived.Test.YtgbogdckmfencaaLo
import Derived.Test.YtgbogdckmfencaaAkM
import Derived.Test.YtgbogdckmfencaaSlip
set_option linter.unusedSimpArgs false
set_option linter.unusedVariables false
namespace Go.Proofs.Ytgbogdckmfencaa
open Go Go.RowKit
/-- A log and a slip as parameters, behind the start of a function. -/
structure LS (w : World) (st z0 z1 : Int) (A : Option Addr) (n c : Nat) (es : List Ev) (FA : Option Addr) (fn fc : Nat) (BA : Option Addr) (bn bc : Nat) (fs bs d0 d1 : Int) (F B : List Int) (wr : World) : Prop where
 k1 : Bx wr w.heap.size 26 #[.int .i64 st,.int .i64 z0,.int .i64 z1,.slice A n c]
 k2 : Bx wr (w.heap.size + 1) 50 #[.slice FA fn fc,.slice BA bn bc,.int .i64 fs,.int .i64 bs,.int .i64 d0,.int .i64 d1]
 hb : Below w.heap.size w wr
 e0 : EvsAt w w.heap.size A es
 f0 : Sl w w.heap.size 1 FA (ints F)
 b0 : Sl w w.heap.size 1 BA (ints B)
section
variable {w wr x : World} {st z0 z1 : Int} {A : Option Addr} {n c : Nat} {es : List Ev} {FA : Option Addr} {fn fc : Nat} {BA : Option Addr} {bn bc : Nat} {fs bs d0 d1 : Int} {F B : List Int}
theorem LS.start (e0 : EvsAt w w.heap.size A es) (f0 : Sl w w.heap.size 1 FA (ints F)) (b0 : Sl w w.heap.size 1 BA (ints B)) : LS w st z0 z1 A n c es FA fn fc BA bn bc fs bs d0 d1 F B ((w.alloc (.cells #[.int .i64 st,.int .i64 z0,.int .i64 z1,.slice A n c] 26)).alloc (.cells #[.slice FA fn fc,.slice BA bn bc,.int .i64 fs,.int .i64 bs,.int .i64 d0,.int .i64 d1] 50)) :=
 ⟨(Bx.new w 26 #[.int .i64 st,.int .i64 z0,.int .i64 z1,.slice A n c]).alloc _,Bx.at _ _ _ (by simp),((Below.refl _ _).alloc (Nat.le_refl _) _).alloc (by simp) _,e0,f0,b0⟩
theorem LS.bel (I : LS w st z0 z1 A n c es FA fn fc BA bn bc fs bs d0 d1 F B wr) (h : Below wr.heap.size wr x) : LS w st z0 z1 A n c es FA fn fc BA bn bc fs bs d0 d1 F B x:=⟨I.k1.call h,I.k2.call h,I.hb.trans (h.mono I.hb.size),I.e0,I.f0,I.b0⟩
theorem LS.al (I : LS w st z0 z1 A n c es FA fn fc BA bn bc fs bs d0 d1 F B wr) (o : Obj) : LS w st z0 z1 A n c es FA fn fc BA bn bc fs bs d0 d1 F B (wr.alloc o):=I.bel ((Below.refl _ _).alloc (Nat.le_refl _) o)
theorem LS.far (I : LS w st z0 z1 A n c es FA fn fc BA bn bc fs bs d0 d1 F B wr) {r : Nat} (hr : w.heap.size + 1 < r) (j : Nat) (u : Value) : LS w st z0 z1 A n c es FA fn fc BA bn bc fs bs d0 d1 F B (wr.setCell ⟨r,j,none⟩ u) :=
 ⟨I.k1.far (by show w.heap.size ≠ r; omega) u,I.k2.far (by show w.heap.size + 1 ≠ r; omega) u,I.hb.setCell (p:=⟨r,j,none⟩) (by show w.heap.size ≤ r; omega) u,I.e0,I.f0,I.b0⟩
theorem LS.ev (I : LS w st z0 z1 A n c es FA fn fc BA bn bc fs bs d0 d1 F B wr) : EvsAt wr wr.heap.size A es:=(Sl.below I.e0 I.hb).more I.hb.size
theorem LS.sf (I : LS w st z0 z1 A n c es FA fn fc BA bn bc fs bs d0 d1 F B wr) : Sl wr wr.heap.size 1 FA (ints F):=(Sl.below I.f0 I.hb).more I.hb.size
theorem LS.sb (I : LS w st z0 z1 A n c es FA fn fc BA bn bc fs bs d0 d1 F B wr) : Sl wr wr.heap.size 1 BA (ints B):=(Sl.below I.b0 I.hb).more I.hb.size
end
theorem seat_btw (s : Int) : btwB s 0 2 = seatB s:=rfl
theorem overlap_not {F B : List Int} (h : ∀ x ∈ F,¬ x ∈ B) : overlap F B = false:=by
 unfold overlap
 rw [Bool.eq_false_iff]
 intro h2
 obtain ⟨x,hx,hb⟩:=List.any_eq_true.1 h2
 rw [List.contains_eq_mem,decide_eq_true_eq] at hb
 exact h x hx hb
theorem overlap_yes {F B : List Int} {x : Int} (h : x ∈ F) (h2 : x ∈ B) : overlap F B = true:=by
 unfold overlap
 rw [List.any_eq_true]
 exact ⟨x,h,by rw [List.contains_eq_mem,decide_eq_true_eq]; exact h2⟩
end Go.Proofs.Ytgbogdckmfencaa

/-! The reference's CheckSlip. -/
namespace Go.Proofs.Ytgbogdckmfencaa
open Go Go.RowKit
set_option maxRecDepth 100000 in
set_option maxHeartbeats 4000000 in
theorem refSlip_any (st z0 z1 : Int) (A : Option Addr) (n c : Nat) (es : List Ev) (FA : Option Addr) (fn fc : Nat) (BA : Option Addr) (bn bc : Nat) (fs bs d0 d1 : Int) (F B : List Int) (w : World) (hn : n ≤ 9223372036854775807) (hl : es.length = n) (hA : EvsAt w w.heap.size A es) (hfn : fn ≤ 1000) (hbn : bn ≤ 1000) (hf : F.length = fn) (hb : B.length = bn) (hF : Sl w w.heap.size 1 FA (ints F)) (hBs : Sl w w.heap.size 1 BA (ints B)) :
  Calls Try.prog 34 #[.agg #[.int .i64 st,.int .i64 z0,.int .i64 z1,.slice A n c],.agg #[.slice FA fn fc,.slice BA bn bc,.int .i64 fs,.int .i64 bs,.int .i64 d0,.int .i64 d1]] w fun e w' => e = .returned (.int .i64 (ckS st z0 z1 es F B fs bs d0 d1)) ∧ Below w.heap.size w w':=by
 have I:=LS.start (st:=st) (z0:=z0) (z1:=z1) (n:=n) (c:=c) (fn:=fn) (fc:=fc) (bn:=bn) (bc:=bc) (fs:=fs) (bs:=bs) (d0:=d0) (d1:=d1) hA hF hBs
 obtain ⟨W,hW⟩ : ∃ x,(w.alloc (.cells #[.int .i64 st,.int .i64 z0,.int .i64 z1,.slice A n c] 26)).alloc (.cells #[.slice FA fn fc,.slice BA bn bc,.int .i64 fs,.int .i64 bs,.int .i64 d0,.int .i64 d1] 50) = x:=⟨_,rfl⟩
 rw [hW] at I
 have HW:=Lib.hid hW
 have HL:=Lib.hid hl
 have HF:=Lib.hid hf
 have HBn:=Lib.hid hb
 clear hl hf hb hW hA hF hBs
 obtain ⟨a0,a1,a2,a3,af,az⟩:=I.k1.four
 by_cases hc : ckL st z0 z1 es = 0
 case neg =>
  have hc1 : (ckL st z0 z1 es != 0) = true:=by simpa using hc
  have H1 : Hid (ckS st z0 z1 es F B fs bs d0 d1 = ckL st z0 z1 es):=by unfold Hid ckS; rw [if_pos hc]
  clear hc
  go_enter Try.func34,Try.ntmps34
  go_upto_region 1 with fail
  rw [HW.out]
  go_wp2_with (first | (go_at_call 23; refine (refCheck_any st z0 z1 A n c es _ hn HL.out I.ev).mono ?_; rintro e w1 ⟨rfl,hq⟩; replace I:=I.bel hq; clear hq a0 a1 a2 a3 af az; (try clear s0 s1 s2 s3 s4 s5 sf sz); obtain ⟨a0,a1,a2,a3,af,az⟩:=I.k1.four; obtain ⟨s0,s1,s2,s3,s4,s5,sf,sz⟩:=I.k2.six; try rw [HC.out]) | (go_at_call_of 78 (Value.slice FA fn fc); refine (refAxles_any st z0 z1 A n c es FA fn fc F _ h14 HL.out I.ev hfn HF.out I.sf).mono ?_; rintro e w2 ⟨rfl,hq⟩; replace I:=I.bel hq; clear hq a0 a1 a2 a3 af az; (try clear s0 s1 s2 s3 s4 s5 sf sz); obtain ⟨a0,a1,a2,a3,af,az⟩:=I.k1.four; obtain ⟨s0,s1,s2,s3,s4,s5,sf,sz⟩:=I.k2.six; try rw [HFz.out]) | (go_at_call_of 78 (Value.slice BA bn bc); refine (refAxles_any st z0 z1 A n c es BA bn bc B _ h14 HL.out I.ev hbn HBn.out I.sb).mono ?_; rintro e w3 ⟨rfl,hq⟩; replace I:=I.bel hq; clear hq a0 a1 a2 a3 af az; (try clear s0 s1 s2 s3 s4 s5 sf sz); obtain ⟨a0,a1,a2,a3,af,az⟩:=I.k1.four; obtain ⟨s0,s1,s2,s3,s4,s5,sf,sz⟩:=I.k2.six; try rw [HBz.out]) | fail)
  go_ret
  exact ⟨ret_int H1.out.symm,I.hb⟩
 have hc1 : (ckL st z0 z1 es != 0) = false:=by simpa using hc
 have h14 : n ≤ 14:=by rw [← HL.out]; exact (ckL_zero hc).n
 have H0 : Hid (ckS st z0 z1 es F B fs bs d0 d1 = if ckA es F ≠ 0 then ckA es F else if ckA es B ≠ 0 then ckA es B else if overlap F B = true then 4 else if seatB fs = false ∨ seatB bs = false then 8 else ckR d0 d1 0 200):=by unfold Hid ckS; rw [if_neg (fun h => h hc)]
 have HC:=Lib.hid hc
 clear hc
 by_cases hfz : ckA es F = 0
 case neg =>
  have hc2 : (ckA es F != 0) = true:=by simpa using hfz
  have H1 : Hid (ckS st z0 z1 es F B fs bs d0 d1 = ckA es F):=by unfold Hid; rw [H0.out,if_pos hfz]
  clear hfz H0
  go_enter Try.func34,Try.ntmps34
  go_upto_region 1 with fail
  rw [HW.out]
  go_wp2_with (first | (go_at_call 23; refine (refCheck_any st z0 z1 A n c es _ hn HL.out I.ev).mono ?_; rintro e w1 ⟨rfl,hq⟩; replace I:=I.bel hq; clear hq a0 a1 a2 a3 af az; (try clear s0 s1 s2 s3 s4 s5 sf sz); obtain ⟨a0,a1,a2,a3,af,az⟩:=I.k1.four; obtain ⟨s0,s1,s2,s3,s4,s5,sf,sz⟩:=I.k2.six; try rw [HC.out]) | (go_at_call_of 78 (Value.slice FA fn fc); refine (refAxles_any st z0 z1 A n c es FA fn fc F _ h14 HL.out I.ev hfn HF.out I.sf).mono ?_; rintro e w2 ⟨rfl,hq⟩; replace I:=I.bel hq; clear hq a0 a1 a2 a3 af az; (try clear s0 s1 s2 s3 s4 s5 sf sz); obtain ⟨a0,a1,a2,a3,af,az⟩:=I.k1.four; obtain ⟨s0,s1,s2,s3,s4,s5,sf,sz⟩:=I.k2.six; try rw [HFz.out]) | (go_at_call_of 78 (Value.slice BA bn bc); refine (refAxles_any st z0 z1 A n c es BA bn bc B _ h14 HL.out I.ev hbn HBn.out I.sb).mono ?_; rintro e w3 ⟨rfl,hq⟩; replace I:=I.bel hq; clear hq a0 a1 a2 a3 af az; (try clear s0 s1 s2 s3 s4 s5 sf sz); obtain ⟨a0,a1,a2,a3,af,az⟩:=I.k1.four; obtain ⟨s0,s1,s2,s3,s4,s5,sf,sz⟩:=I.k2.six; try rw [HBz.out]) | fail)
  go_ret
  exact ⟨ret_int H1.out.symm,I.hb⟩
 have hc2 : (ckA es F != 0) = false:=by simpa using hfz
 have HFz:=Lib.hid hfz
 clear hfz
 by_cases hbz : ckA es B = 0
 case neg =>
  have hc3 : (ckA es B != 0) = true:=by simpa using hbz
  have H1 : Hid (ckS st z0 z1 es F B fs bs d0 d1 = ckA es B):=by unfold Hid; rw [H0.out,if_neg (fun h => h HFz.out),if_pos hbz]
  clear hbz H0
  go_enter Try.func34,Try.ntmps34
  go_upto_region 1 with fail
  rw [HW.out]
  go_wp2_with (first | (go_at_call 23; refine (refCheck_any st z0 z1 A n c es _ hn HL.out I.ev).mono ?_; rintro e w1 ⟨rfl,hq⟩; replace I:=I.bel hq; clear hq a0 a1 a2 a3 af az; (try clear s0 s1 s2 s3 s4 s5 sf sz); obtain ⟨a0,a1,a2,a3,af,az⟩:=I.k1.four; obtain ⟨s0,s1,s2,s3,s4,s5,sf,sz⟩:=I.k2.six; try rw [HC.out]) | (go_at_call_of 78 (Value.slice FA fn fc); refine (refAxles_any st z0 z1 A n c es FA fn fc F _ h14 HL.out I.ev hfn HF.out I.sf).mono ?_; rintro e w2 ⟨rfl,hq⟩; replace I:=I.bel hq; clear hq a0 a1 a2 a3 af az; (try clear s0 s1 s2 s3 s4 s5 sf sz); obtain ⟨a0,a1,a2,a3,af,az⟩:=I.k1.four; obtain ⟨s0,s1,s2,s3,s4,s5,sf,sz⟩:=I.k2.six; try rw [HFz.out]) | (go_at_call_of 78 (Value.slice BA bn bc); refine (refAxles_any st z0 z1 A n c es BA bn bc B _ h14 HL.out I.ev hbn HBn.out I.sb).mono ?_; rintro e w3 ⟨rfl,hq⟩; replace I:=I.bel hq; clear hq a0 a1 a2 a3 af az; (try clear s0 s1 s2 s3 s4 s5 sf sz); obtain ⟨a0,a1,a2,a3,af,az⟩:=I.k1.four; obtain ⟨s0,s1,s2,s3,s4,s5,sf,sz⟩:=I.k2.six; try rw [HBz.out]) | fail)
  go_ret
  exact ⟨ret_int H1.out.symm,I.hb⟩
 have hc3 : (ckA es B != 0) = false:=by simpa using hbz
 have H1 : Hid (ckS st z0 z1 es F B fs bs d0 d1 = if overlap F B = true then 4 else if seatB fs = false ∨ seatB bs = false then 8 else ckR d0 d1 0 200):=by unfold Hid; rw [H0.out,if_neg (fun h => h HFz.out),if_neg (fun h => h hbz)]
 have HBz:=Lib.hid hbz
 clear hbz H0
 go_enter Try.func34,Try.ntmps34
 go_upto_region 1 with fail
 rw [HW.out]
 go_wp2_with (first | (go_at_call 23; refine (refCheck_any st z0 z1 A n c es _ hn HL.out I.ev).mono ?_; rintro e w1 ⟨rfl,hq⟩; replace I:=I.bel hq; clear hq a0 a1 a2 a3 af az; (try clear s0 s1 s2 s3 s4 s5 sf sz); obtain ⟨a0,a1,a2,a3,af,az⟩:=I.k1.four; obtain ⟨s0,s1,s2,s3,s4,s5,sf,sz⟩:=I.k2.six; try rw [HC.out]) | (go_at_call_of 78 (Value.slice FA fn fc); refine (refAxles_any st z0 z1 A n c es FA fn fc F _ h14 HL.out I.ev hfn HF.out I.sf).mono ?_; rintro e w2 ⟨rfl,hq⟩; replace I:=I.bel hq; clear hq a0 a1 a2 a3 af az; (try clear s0 s1 s2 s3 s4 s5 sf sz); obtain ⟨a0,a1,a2,a3,af,az⟩:=I.k1.four; obtain ⟨s0,s1,s2,s3,s4,s5,sf,sz⟩:=I.k2.six; try rw [HFz.out]) | (go_at_call_of 78 (Value.slice BA bn bc); refine (refAxles_any st z0 z1 A n c es BA bn bc B _ h14 HL.out I.ev hbn HBn.out I.sb).mono ?_; rintro e w3 ⟨rfl,hq⟩; replace I:=I.bel hq; clear hq a0 a1 a2 a3 af az; (try clear s0 s1 s2 s3 s4 s5 sf sz); obtain ⟨a0,a1,a2,a3,af,az⟩:=I.k1.four; obtain ⟨s0,s1,s2,s3,s4,s5,sf,sz⟩:=I.k2.six; try rw [HBz.out]) | fail)
 clear a0 a1 a2 a3 af az s0 s1 s2 s3 s4 s5 sf sz
 obtain ⟨W3,hW3⟩ : ∃ x,x = w3:=⟨_,rfl⟩
 rw [← hW3] at I ⊢
 clear hW3
 go_loopw [8] (fun v8 wr => ∃ k : Nat,k ≤ fn ∧ v8 = .int .i64 k ∧ Hid (∀ x ∈ F.take k,¬ x ∈ B) ∧ Below W3.heap.size W3 wr) (fun v8 _ => fn - (intOf v8).toNat)
 case atStart => exact ⟨0,by omega,rfl,Lib.hid (by simp),Below.refl _ _⟩
 case round =>
  obtain ⟨w4,rfl⟩ : ∃ x,x = wr:=⟨_,rfl⟩
  obtain ⟨k,hk,rfl,hd,hB⟩:=hrel
  have I4:=I.bel hB
  obtain ⟨s0,s1,s2,s3,s4,s5,sf,sz⟩:=I4.k2.six
  by_cases hkm : k < fn
  ·have hke : k < F.length:=by rw [HF.out]; exact hkm
   obtain ⟨ad,rfl,hab,q0⟩:=ints_at I4.sf hke
   obtain ⟨a,ha⟩ : ∃ a,F[k] = a:=⟨_,rfl⟩
   rw [ha] at q0
   have HA1 : Hid (F[k]? = some a):=by unfold Hid; rw [List.getElem?_eq_getElem hke,ha]
   have Q0:=Lib.hid q0
   have hab2 : (ad.add k).block < w4.heap.size:=by rw [add_block]; exact hab
   clear ha q0
   obtain ⟨b,hb⟩ : ∃ b,B.contains a = b:=⟨_,rfl⟩
   have HB1:=Lib.hid hb
   clear hb
   go_upto_region 13 with fail
   clear s0 s1 s2 s3 s4 s5 sf sz
   refine AnyG.startC (by kernel_rfl) ?_
   refine AnyG.takeP (i:=0) (v:=?_) rfl (by kernel_rfl) (fun _ _ _ h => h) rfl ?_ ?_
   rotate_left
   ·(intro w'; go_simp; try with_reducible rfl)
   try simp only [Act.put,Sp1,Sp2,Sp3,Sp4,Sp5,Sp6]
   refine AnyG.takeP (i:=2) (v:=?_) rfl (by kernel_rfl) (fun _ _ _ h => h) rfl ?_ ?_
   rotate_left
   ·(intro w'; go_simp; try with_reducible rfl)
   try simp only [Act.put,Sp1,Sp2,Sp3,Sp4,Sp5,Sp6]
   refine AnyG.takeP (i:=4) (v:=?_) rfl (by kernel_rfl) (fun _ _ _ h => h) rfl ?_ ?_
   rotate_left
   ·(intro w'; go_simp; try with_reducible rfl)
   try simp only [Act.put,Sp1,Sp2,Sp3,Sp4,Sp5,Sp6]
   refine AnyG.enter (fun w' : World => Below w4.heap.size w4 w') (fun i => i != 7) ?_
   have hS : (fun w' : World => Below w4.heap.size w4 w') (World.drew _):=Below.drew (Below.refl _ _)
   refine AnyG.takeC (i:=1) (v:=?_) rfl (by kernel_rfl) (fun _ _ _ h => h) rfl ?_ hS ?_
   rotate_left
   ·(intro w' hSw; (try dsimp only at hSw); obtain ⟨s0,s1,s2,s3,s4,s5,sf,sz⟩:=(I4.k2.call hSw).six; go_simp; try with_reducible rfl)
   try simp only [Act.put,Sp1,Sp2,Sp3,Sp4,Sp5,Sp6]
   refine AnyG.takeC (i:=3) (v:=?_) rfl (by kernel_rfl) (fun _ _ _ h => h) rfl ?_ hS ?_
   rotate_left
   ·(intro w' hSw; (try dsimp only at hSw); obtain ⟨s0,s1,s2,s3,s4,s5,sf,sz⟩:=(I4.k2.call hSw).six; go_simp; try with_reducible rfl)
   try simp only [Act.put,Sp1,Sp2,Sp3,Sp4,Sp5,Sp6]
   refine AnyG.takeC (i:=5) (v:=?_) rfl (by kernel_rfl) (fun _ _ _ h => h) rfl ?_ hS ?_
   rotate_left
   ·(intro w' hSw; (try dsimp only at hSw); go_simp; try with_reducible rfl)
   try simp only [Act.put,Sp1,Sp2,Sp3,Sp4,Sp5,Sp6]
   refine AnyG.takeC (i:=6) (v:=?_) rfl (by kernel_rfl) (fun _ _ _ h => h) rfl ?_ hS ?_
   rotate_left
   ·(intro w' hSw; (try dsimp only at hSw); have q0:=(hSw.cell (p:=ad.add k) hab2).trans Q0.out; go_simp; try with_reducible rfl)
   try simp only [Act.put,Sp1,Sp2,Sp3,Sp4,Sp5,Sp6]
   refine AnyG.one (i:=7) (by kernel_rfl) rfl rfl ?_
   go_simp
   refine (among_any BA bn bc B a _ hbn HBn.out (I4.bel hS).sb).mono ?_
   rintro er y1 ⟨rfl,rfl⟩
   rw [HB1.out]
   refine Onward.last rfl ?_
   try simp only [Act.put,Sp1,Sp2,Sp3,Sp4,Sp5,Sp6]
   refine AnyG.done (by kernel_rfl) ?_ _
   go_simp
   try dsimp only at hS
   cases b
   ·have hB3:=hB.trans (hS.mono hB.size)
    go_wp2_with fail
    go_roundw
    case rel =>
     refine ⟨k + 1,by omega,by go_num,Lib.hid (fun x hx => ?_),hB3⟩
     rw [List.take_succ_eq_append_getElem hke,List.mem_append] at hx
     rcases hx with hx | hx
     ·exact hd.out x hx
     ·have h:=HB1.out
      rw [List.contains_eq_mem,decide_eq_false_iff_not] at h
      rw [List.mem_singleton.1 hx,(List.getElem?_eq_some_iff.1 HA1.out).2]
      exact h
    case measure => simp [intOf]; omega
   ·have hB3:=I4.hb.trans (hS.mono I4.hb.size)
    have hd' : Hid (ckS st z0 z1 es F B fs bs d0 d1 = 4):=by
     unfold Hid
     have h:=HB1.out
     rw [List.contains_eq_mem,decide_eq_true_eq] at h
     rw [H1.out,if_pos (overlap_yes (List.mem_of_getElem? HA1.out) h)]
    go_wp2_with fail
    go_ret
    exact ⟨ret_int hd'.out.symm,hB3⟩
  ·have hov : overlap F B = false:=overlap_not (fun x hx => hd.out x (by rw [List.take_of_length_le (by rw [HF.out]; omega)]; exact hx))
   have hd2 : Hid (ckS st z0 z1 es F B fs bs d0 d1 = if seatB fs = false ∨ seatB bs = false then 8 else ckR d0 d1 0 200):=by unfold Hid; rw [H1.out,if_neg (by rw [hov]; simp)]
   clear hov hd
   obtain ⟨x1,e1⟩ : ∃ x,btwB fs 0 2 = x:=⟨_,rfl⟩
   cases x1
   ·have hd' : Hid (ckS st z0 z1 es F B fs bs d0 d1 = 8):=by unfold Hid; rw [hd2.out,if_pos (.inl e1)]
    go_wp2_with (first | (go_at_call 64; refine (between_b _ _ _ _).mono ?_; rintro e y1 ⟨rfl,rfl⟩; rw [e1]) | fail)
    go_ret
    exact ⟨ret_int hd'.out.symm,I4.hb⟩
   ·obtain ⟨x2,e2⟩ : ∃ x,btwB bs 0 2 = x:=⟨_,rfl⟩
    cases x2
    ·have hd' : Hid (ckS st z0 z1 es F B fs bs d0 d1 = 8):=by unfold Hid; rw [hd2.out,if_pos (.inr e2)]
     go_wp2_with (first | (go_at_call_of 64 (Value.int .i64 fs); refine (between_b _ _ _ _).mono ?_; rintro e y1 ⟨rfl,rfl⟩; rw [e1]) | (go_at_call_of 64 (Value.int .i64 bs); refine (between_b _ _ _ _).mono ?_; rintro e y1 ⟨rfl,rfl⟩; rw [e2]) | fail)
     go_ret
     exact ⟨ret_int hd'.out.symm,I4.hb⟩
    ·have hd' : Hid (ckS st z0 z1 es F B fs bs d0 d1 = ckR d0 d1 0 200):=by unfold Hid; rw [hd2.out,if_neg (by rw [← seat_btw,← seat_btw,e1,e2]; simp)]
     go_wp2_with (first | (go_at_call_of 64 (Value.int .i64 fs); refine (between_b _ _ _ _).mono ?_; rintro e y1 ⟨rfl,rfl⟩; rw [e1]) | (go_at_call_of 64 (Value.int .i64 bs); refine (between_b _ _ _ _).mono ?_; rintro e y1 ⟨rfl,rfl⟩; rw [e2]) | (go_at_call 65; refine (refRange_any d0 d1 0 200 _).mono ?_; rintro e y2 ⟨rfl,hq⟩) | fail)
     go_ret
     exact ⟨ret_int hd'.out.symm,I4.hb.trans (hq.mono I4.hb.size)⟩
end Go.Proofs.Ytgbogdckmfencaa

/-! Logs and slips in rows, and their copies. -/
namespace Go.Proofs.Ytgbogdckmfencaa
open Go Go.RowKit
/-- A log as it lies in memory. -/
structure LogD where
 (st z0 z1 : Int) (A : Option Addr) (c : Nat) (es : List Ev)
structure LogAt (bR i : Nat) (d : LogD) (x : World) : Prop where
 c0 : x.cell? ⟨bR,i * 4,none⟩ = some (.int .i64 d.st)
 c1 : x.cell? ⟨bR,i * 4 + 1,none⟩ = some (.int .i64 d.z0)
 c2 : x.cell? ⟨bR,i * 4 + 2,none⟩ = some (.int .i64 d.z1)
 c3 : x.cell? ⟨bR,i * 4 + 3,none⟩ = some (.slice d.A d.es.length d.c)
 ev : EvsAt x x.heap.size d.A d.es
 len : d.es.length ≤ 20
 lt : bR < x.heap.size
theorem LogAt.bel {bR i : Nat} {d : LogD} {x y : World} (h : LogAt bR i d x) (hb : Below x.heap.size x y) : LogAt bR i d y :=
 ⟨(hb.cell (p:=⟨bR,i * 4,none⟩) h.lt).trans h.c0,(hb.cell (p:=⟨bR,i * 4 + 1,none⟩) h.lt).trans h.c1,(hb.cell (p:=⟨bR,i * 4 + 2,none⟩) h.lt).trans h.c2,(hb.cell (p:=⟨bR,i * 4 + 3,none⟩) h.lt).trans h.c3,(Sl.below h.ev hb).more hb.size,h.len,Nat.lt_of_lt_of_le h.lt hb.size⟩
/-- A slip. -/
structure SlD where
 (FA : Option Addr) (fc : Nat) (BA : Option Addr) (bc : Nat) (fs bs d0 d1 : Int) (F B : List Int)
structure SlipRow (bR i : Nat) (d : SlD) (x : World) : Prop where
 c0 : x.cell? ⟨bR,i * 6,none⟩ = some (.slice d.FA d.F.length d.fc)
 c1 : x.cell? ⟨bR,i * 6 + 1,none⟩ = some (.slice d.BA d.B.length d.bc)
 c2 : x.cell? ⟨bR,i * 6 + 2,none⟩ = some (.int .i64 d.fs)
 c3 : x.cell? ⟨bR,i * 6 + 3,none⟩ = some (.int .i64 d.bs)
 c4 : x.cell? ⟨bR,i * 6 + 4,none⟩ = some (.int .i64 d.d0)
 c5 : x.cell? ⟨bR,i * 6 + 5,none⟩ = some (.int .i64 d.d1)
 sf : Sl x x.heap.size 1 d.FA (ints d.F)
 sb : Sl x x.heap.size 1 d.BA (ints d.B)
 l1 : d.F.length ≤ 1000
 l2 : d.B.length ≤ 1000
 lt : bR < x.heap.size
theorem SlipRow.bel {bR i : Nat} {d : SlD} {x y : World} (h : SlipRow bR i d x) (hb : Below x.heap.size x y) : SlipRow bR i d y :=
 ⟨(hb.cell (p:=⟨bR,i * 6,none⟩) h.lt).trans h.c0,(hb.cell (p:=⟨bR,i * 6 + 1,none⟩) h.lt).trans h.c1,(hb.cell (p:=⟨bR,i * 6 + 2,none⟩) h.lt).trans h.c2,(hb.cell (p:=⟨bR,i * 6 + 3,none⟩) h.lt).trans h.c3,(hb.cell (p:=⟨bR,i * 6 + 4,none⟩) h.lt).trans h.c4,(hb.cell (p:=⟨bR,i * 6 + 5,none⟩) h.lt).trans h.c5,(h.sf.below hb).more hb.size,(h.sb.below hb).more hb.size,h.l1,h.l2,Nat.lt_of_lt_of_le h.lt hb.size⟩
/-- A range. -/
structure RngRow (bR i : Nat) (p q : Int) (x : World) : Prop where
 c0 : x.cell? ⟨bR,i * 2,none⟩ = some (.int .i64 p)
 c1 : x.cell? ⟨bR,i * 2 + 1,none⟩ = some (.int .i64 q)
 lt : bR < x.heap.size
theorem RngRow.bel {bR i : Nat} {p q : Int} {x y : World} (h : RngRow bR i p q x) (hb : Below x.heap.size x y) : RngRow bR i p q y :=
 ⟨(hb.cell (p:=⟨bR,i * 2,none⟩) h.lt).trans h.c0,(hb.cell (p:=⟨bR,i * 2 + 1,none⟩) h.lt).trans h.c1,Nat.lt_of_lt_of_le h.lt hb.size⟩
/-- A log and a slip of the rows, and their copies. -/
structure NB (U : World) (bL bS i b18 b19 : Nat) (d : LogD) (s : SlD) (A2 : Option Addr) (c2 : Nat) (FA2 : Option Addr) (fc2 : Nat) (BA2 : Option Addr) (bc2 : Nat) (x : World) : Prop where
 la : LogAt bL i d x
 sa : SlipRow bS i s x
 kB : Bx x b18 26 #[.int .i64 d.st,.int .i64 d.z0,.int .i64 d.z1,.slice A2 d.es.length c2]
 kS : Bx x b19 50 #[.slice FA2 s.F.length fc2,.slice BA2 s.B.length bc2,.int .i64 s.fs,.int .i64 s.bs,.int .i64 s.d0,.int .i64 s.d1]
 ev : EvsAt x x.heap.size A2 d.es
 sf : Sl x x.heap.size 1 FA2 (ints s.F)
 sb : Sl x x.heap.size 1 BA2 (ints s.B)
 hb : Below U.heap.size U x
theorem NB.bel {U : World} {bL bS i b18 b19 : Nat} {d : LogD} {s : SlD} {A2 : Option Addr} {c2 : Nat} {FA2 : Option Addr} {fc2 : Nat} {BA2 : Option Addr} {bc2 : Nat} {x y : World} (h : NB U bL bS i b18 b19 d s A2 c2 FA2 fc2 BA2 bc2 x) (hb : Below x.heap.size x y) : NB U bL bS i b18 b19 d s A2 c2 FA2 fc2 BA2 bc2 y :=
 ⟨h.la.bel hb,h.sa.bel hb,h.kB.call hb,h.kS.call hb,(Sl.below h.ev hb).more hb.size,(h.sf.below hb).more hb.size,(h.sb.below hb).more hb.size,h.hb.trans (hb.mono h.hb.size)⟩
theorem LS.ft {g : Nat} {w wr x : World} {st z0 z1 : Int} {A : Option Addr} {n c : Nat} {es : List Ev} {FA : Option Addr} {fn fc : Nat} {BA : Option Addr} {bn bc : Nat} {fs bs d0 d1 : Int} {F B : List Int} (I : LS w st z0 z1 A n c es FA fn fc BA bn bc fs bs d0 d1 F B wr) (h : FT g wr x) (hg : w.heap.size + 1 < g) : LS w st z0 z1 A n c es FA fn fc BA bn bc fs bs d0 d1 F B x :=
 ⟨h.bx I.k1 (by omega),h.bx I.k2 (by omega),h.be I.hb (by omega),I.e0,I.f0,I.b0⟩
end Go.Proofs.Ytgbogdckmfencaa

/-! The starts of BridgeNets and BridgeTests: what was given, and what is made. -/
namespace Go.Proofs.Ytgbogdckmfencaa
open Go Go.RowKit
theorem AnyG.castL {P : Program} {md : Region.Mode} {ops : Array Oper} {Q : Exit → Act → World → Prop} {S : World → Prop} {G : Nat → Bool} {fuel : Nat} {L L' : Array Bool} {a : Act} {w : World} (h : L = L') (H : AnyG P md ops Q S G fuel L' a w) : AnyG P md ops Q S G fuel L a w:=h ▸ H
/-- What several orders have in common is shown once. -/
theorem by_tail {P Hy : World → Nat → Nat → Option Addr → Nat → Option Addr → Nat → Option Addr → Nat → Prop} {G : Prop} (main : (∀ y p q A c FA fc BA bc,Hy y p q A c FA fc BA bc → P y p q A c FA fc BA bc) → G) (tail : ∀ y p q A c FA fc BA bc,Hy y p q A c FA fc BA bc → P y p q A c FA fc BA bc) : G:=main tail
/-- A log and a slip that were given, in boxes. -/
structure PX (b : Nat) (x0 x1 x2 : Int) (XA : Option Addr) (xn xc : Nat) (xs : List Ev) (SFA : Option Addr) (sfn sfc : Nat) (SBA : Option Addr) (sbn sbc : Nat) (sfs sbs sd0 sd1 : Int) (SF SB : List Int) (x : World) : Prop where
 kX : Bx x b 26 #[.int .i64 x0,.int .i64 x1,.int .i64 x2,.slice XA xn xc]
 kS : Bx x (b + 1) 50 #[.slice SFA sfn sfc,.slice SBA sbn sbc,.int .i64 sfs,.int .i64 sbs,.int .i64 sd0,.int .i64 sd1]
 ev : EvsAt x x.heap.size XA xs
 sf : Sl x x.heap.size 1 SFA (ints SF)
 sb : Sl x x.heap.size 1 SBA (ints SB)
theorem PX.bel {b : Nat} {x0 x1 x2 : Int} {XA : Option Addr} {xn xc : Nat} {xs : List Ev} {SFA : Option Addr} {sfn sfc : Nat} {SBA : Option Addr} {sbn sbc : Nat} {sfs sbs sd0 sd1 : Int} {SF SB : List Int} {x y : World} (h : PX b x0 x1 x2 XA xn xc xs SFA sfn sfc SBA sbn sbc sfs sbs sd0 sd1 SF SB x) (hb : Below x.heap.size x y) : PX b x0 x1 x2 XA xn xc xs SFA sfn sfc SBA sbn sbc sfs sbs sd0 sd1 SF SB y :=
 ⟨h.kX.call hb,h.kS.call hb,(Sl.below h.ev hb).more hb.size,(h.sf.below hb).more hb.size,(h.sb.below hb).more hb.size⟩
theorem PX.gr {b g : Nat} {x0 x1 x2 : Int} {XA : Option Addr} {xn xc : Nat} {xs : List Ev} {SFA : Option Addr} {sfn sfc : Nat} {SBA : Option Addr} {sbn sbc : Nat} {sfs sbs sd0 sd1 : Int} {SF SB : List Int} {x y : World} (h : PX b x0 x1 x2 XA xn xc xs SFA sfn sfc SBA sbn sbc sfs sbs sd0 sd1 SF SB x) (hf : Fd g x) (hg : x.grownBy y (some g)) (hn : b + 1 < g) : PX b x0 x1 x2 XA xn xc xs SFA sfn sfc SBA sbn sbc sfs sbs sd0 sd1 SF SB y :=
 ⟨h.kX.grown hg (by simp; omega),h.kS.grown hg (by simp; omega),(Sl.ft h.ev hf hg (evs_no xs)).more hg.size,(Sl.ft h.sf hf hg (ints_no SF)).more hg.size,(Sl.ft h.sb hf hg (ints_no SB)).more hg.size⟩
theorem PX.al {b : Nat} {x0 x1 x2 : Int} {XA : Option Addr} {xn xc : Nat} {xs : List Ev} {SFA : Option Addr} {sfn sfc : Nat} {SBA : Option Addr} {sbn sbc : Nat} {sfs sbs sd0 sd1 : Int} {SF SB : List Int} {x : World} (h : PX b x0 x1 x2 XA xn xc xs SFA sfn sfc SBA sbn sbc sfs sbs sd0 sd1 SF SB x) (o : Obj) : PX b x0 x1 x2 XA xn xc xs SFA sfn sfc SBA sbn sbc sfs sbs sd0 sd1 SF SB (x.alloc o):=h.bel ((Below.refl _ _).alloc (Nat.le_refl _) o)
/-- A log and a slip that were made, in boxes. -/
structure MX (p q : Nat) (st z0 z1 : Int) (EA : Option Addr) (k EC : Nat) (es : List Ev) (FA : Option Addr) (fn fc : Nat) (BA : Option Addr) (bn bc : Nat) (fs bs d0 d1 : Int) (F B : List Int) (x : World) : Prop where
 kL : Bx x p 26 #[.int .i64 st,.int .i64 z0,.int .i64 z1,.slice EA k EC]
 kM : Bx x q 50 #[.slice FA fn fc,.slice BA bn bc,.int .i64 fs,.int .i64 bs,.int .i64 d0,.int .i64 d1]
 ev : EvsAt x x.heap.size EA es
 sf : Sl x x.heap.size 1 FA (ints F)
 sb : Sl x x.heap.size 1 BA (ints B)
theorem MX.bel {p q : Nat} {st z0 z1 : Int} {EA : Option Addr} {k EC : Nat} {es : List Ev} {FA : Option Addr} {fn fc : Nat} {BA : Option Addr} {bn bc : Nat} {fs bs d0 d1 : Int} {F B : List Int} {x y : World} (h : MX p q st z0 z1 EA k EC es FA fn fc BA bn bc fs bs d0 d1 F B x) (hb : Below x.heap.size x y) : MX p q st z0 z1 EA k EC es FA fn fc BA bn bc fs bs d0 d1 F B y :=
 ⟨h.kL.call hb,h.kM.call hb,(Sl.below h.ev hb).more hb.size,(h.sf.below hb).more hb.size,(h.sb.below hb).more hb.size⟩
theorem MX.gr {p q g : Nat} {st z0 z1 : Int} {EA : Option Addr} {k EC : Nat} {es : List Ev} {FA : Option Addr} {fn fc : Nat} {BA : Option Addr} {bn bc : Nat} {fs bs d0 d1 : Int} {F B : List Int} {x y : World} (h : MX p q st z0 z1 EA k EC es FA fn fc BA bn bc fs bs d0 d1 F B x) (hf : Fd g x) (hg : x.grownBy y (some g)) (hp : p ≠ g) (hq : q ≠ g) : MX p q st z0 z1 EA k EC es FA fn fc BA bn bc fs bs d0 d1 F B y :=
 ⟨h.kL.grown hg (by simpa using hp),h.kM.grown hg (by simpa using hq),(Sl.ft h.ev hf hg (evs_no es)).more hg.size,(Sl.ft h.sf hf hg (ints_no F)).more hg.size,(Sl.ft h.sb hf hg (ints_no B)).more hg.size⟩
theorem MX.al {p q : Nat} {st z0 z1 : Int} {EA : Option Addr} {k EC : Nat} {es : List Ev} {FA : Option Addr} {fn fc : Nat} {BA : Option Addr} {bn bc : Nat} {fs bs d0 d1 : Int} {F B : List Int} {x : World} (h : MX p q st z0 z1 EA k EC es FA fn fc BA bn bc fs bs d0 d1 F B x) (o : Obj) : MX p q st z0 z1 EA k EC es FA fn fc BA bn bc fs bs d0 d1 F B (x.alloc o):=h.bel ((Below.refl _ _).alloc (Nat.le_refl _) o)
end Go.Proofs.Ytgbogdckmfencaa
