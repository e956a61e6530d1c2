/- bridge.Best. -/
import Derived.Test.YtgbogdckmfencaaSqM
import Derived.Test.YtgbogdckmfencaaWi
import Derived.Test.YtgbogdckmfencaaMo
import Derived.Test.YtgbogdckmfencaaFolM
import Derived.Deep.CutBlock
set_option linter.unusedSimpArgs false
set_option linter.unusedVariables false
namespace Go.Proofs.Ytgbogdckmfencaa
open Go.RowKit Go.Shelf
set_option maxRecDepth 100000 in
set_option maxHeartbeats 2000000 in
theorem best_bad (st z0 z1 : Int) (A : Option Addr) (n c : Nat) (es : List Ev) (FA : Option Addr) (fn fc : Nat) (BA : Option Addr) (bn bc : Nat) (fs bs d0 d1 : Int) (F B : List Int) (w : World) (hn : n ≤ 9223372036854775807) (hl : es.length = n) (hA : EvsAt w w.heap.size A es) (hfn : fn ≤ 9223372036854775807) (hbn : bn ≤ 9223372036854775807) (hf : F.length = fn) (hb : B.length = bn) (hF : Sl w w.heap.size 1 FA (ints F)) (hBs : Sl w w.heap.size 1 BA (ints B)) (hck : ckS st z0 z1 es F B fs bs d0 d1 ≠ 0) :
  Calls Try.prog 38 #[.agg #[.int .i64 st,.int .i64 z0,.int .i64 z1,.slice A n c],.agg #[.slice FA fn fc,.slice BA bn bc,.int .i64 fs,.int .i64 bs,.int .i64 d0,.int .i64 d1]] w fun e w' => e = .returned (.tuple #[.int .i64 0,.int .i64 0,.int .i64 (ckS st z0 z1 es F B fs bs d0 d1)]) ∧ Below w.heap.size w w':=by
 have hc1 : (ckS st z0 z1 es F B fs bs d0 d1 != 0) = true:=by simpa using hck
 clear hck
 have HL:=Lib.hid hl
 have HF:=Lib.hid hf
 have HBn:=Lib.hid hb
 clear hl hf hb
 have HB0 : Below w.heap.size w ((w.alloc (.cells #[.int .i64 st,.int .i64 z0,.int .i64 z1,.slice A n c] 26)).alloc (.cells #[.slice FA fn fc,.slice BA bn bc,.int .i64 fs,.int .i64 bs,.int .i64 d0,.int .i64 d1] 50)):=((Below.refl _ _).alloc (Nat.le_refl _) _).alloc (by simp) _
 have k1:=(Bx.new w 26 #[.int .i64 st,.int .i64 z0,.int .i64 z1,.slice A n c]).alloc (.cells #[.slice FA fn fc,.slice BA bn bc,.int .i64 fs,.int .i64 bs,.int .i64 d0,.int .i64 d1] 50)
 have k2:=Bx.at (w.alloc (.cells #[.int .i64 st,.int .i64 z0,.int .i64 z1,.slice A n c] 26)) 50 #[.slice FA fn fc,.slice BA bn bc,.int .i64 fs,.int .i64 bs,.int .i64 d0,.int .i64 d1] (n:=w.heap.size + 1) (by simp)
 have HK1:=Lib.hid k1
 have HK2:=Lib.hid k2
 clear k1 k2
 go_enter Try.func38,Try.ntmps38
 go_wp2_with (first | (go_at_call 33; refine (checkSlip_any st z0 z1 A n c es FA fn fc BA bn bc fs bs d0 d1 F B _ hn HL.out ((hA.below HB0).more HB0.size) hfn hbn HF.out HBn.out ((hF.below HB0).more HB0.size) ((hBs.below HB0).more HB0.size)).mono ?_; rintro e w1 ⟨rfl,hb1⟩; have k1:=HK1.out.call hb1; have k2:=HK2.out.call hb1; have HB1:=HB0.trans (hb1.mono HB0.size); clear hb1; obtain ⟨a0,a1,a2,a3,af,az⟩:=k1.four))
 refine bodyPost_ret (v:=.tuple #[.int .i64 0,.int .i64 0,.int .i64 (ckS st z0 z1 es F B fs bs d0 d1)]) (by simp [results,Try.results38,go_sem]) rfl ⟨rfl,HB1⟩
set_option maxRecDepth 100000 in
set_option maxHeartbeats 2000000 in
theorem best_none (st z0 z1 : Int) (A : Option Addr) (n c : Nat) (es : List Ev) (FA : Option Addr) (fn fc : Nat) (BA : Option Addr) (bn bc : Nat) (fs bs d0 d1 : Int) (F B : List Int) (w : World) (hn : n ≤ 9223372036854775807) (hl : es.length = n) (hA : EvsAt w w.heap.size A es) (hfn : fn ≤ 9223372036854775807) (hbn : bn ≤ 9223372036854775807) (hf : F.length = fn) (hb : B.length = bn) (hF : Sl w w.heap.size 1 FA (ints F)) (hBs : Sl w w.heap.size 1 BA (ints B)) (hck : ckS st z0 z1 es F B fs bs d0 d1 = 0) (hckl : ckL st z0 z1 es = 0) (m : Nat) (hfit : Fits st z0 z1 es m) (hm : m < n) :
  Calls Try.prog 38 #[.agg #[.int .i64 st,.int .i64 z0,.int .i64 z1,.slice A n c],.agg #[.slice FA fn fc,.slice BA bn bc,.int .i64 fs,.int .i64 bs,.int .i64 d0,.int .i64 d1]] w fun e w' => e = .returned (.tuple #[.int .i64 0,.int .i64 0,.int .i64 9]) ∧ Below w.heap.size w w':=by
 have HC:=Lib.hid hck
 clear hck
 have HL:=Lib.hid hl
 have HF:=Lib.hid hf
 have HBn:=Lib.hid hb
 clear hl hf hb
 have HB0 : Below w.heap.size w ((w.alloc (.cells #[.int .i64 st,.int .i64 z0,.int .i64 z1,.slice A n c] 26)).alloc (.cells #[.slice FA fn fc,.slice BA bn bc,.int .i64 fs,.int .i64 bs,.int .i64 d0,.int .i64 d1] 50)):=((Below.refl _ _).alloc (Nat.le_refl _) _).alloc (by simp) _
 have k1:=(Bx.new w 26 #[.int .i64 st,.int .i64 z0,.int .i64 z1,.slice A n c]).alloc (.cells #[.slice FA fn fc,.slice BA bn bc,.int .i64 fs,.int .i64 bs,.int .i64 d0,.int .i64 d1] 50)
 have k2:=Bx.at (w.alloc (.cells #[.int .i64 st,.int .i64 z0,.int .i64 z1,.slice A n c] 26)) 50 #[.slice FA fn fc,.slice BA bn bc,.int .i64 fs,.int .i64 bs,.int .i64 d0,.int .i64 d1] (n:=w.heap.size + 1) (by simp)
 have HK1:=Lib.hid k1
 have HK2:=Lib.hid k2
 clear k1 k2
 go_enter Try.func38,Try.ntmps38
 go_wp2_with (first | (go_at_call 33; refine (checkSlip_any st z0 z1 A n c es FA fn fc BA bn bc fs bs d0 d1 F B _ hn HL.out ((hA.below HB0).more HB0.size) hfn hbn HF.out HBn.out ((hF.below HB0).more HB0.size) ((hBs.below HB0).more HB0.size)).mono ?_; rintro e w1 ⟨rfl,hb1⟩; have k1:=HK1.out.call hb1; have k2:=HK2.out.call hb1; have HB1:=HB0.trans (hb1.mono HB0.size); clear hb1; obtain ⟨a0,a1,a2,a3,af,az⟩:=k1.four; rw [HC.out]) | (go_at_call 58; refine (zerosOf_none st z0 z1 A n c es _ HL.out ((hA.below HB1).more HB1.size) hckl m hfit hm).mono ?_; rintro e w2 ⟨rfl,hb2⟩; replace k1:=k1.call hb2; replace k2:=k2.call hb2; replace HB1:=HB1.trans (hb2.mono HB1.size); clear hb2; obtain ⟨a0,a1,a2,a3,af,az⟩:=k1.four) | ((with_reducible (show wpList _ _ _ (⟨none,.store 91 (.tmp 8) _,_,_,_,_⟩ :: _) _ _)); rw [← zarr0]; refine wpList_store_row rfl 91 (.tmp 8) (.tmp 23) rfl w2.heap.size _ rfl rfl 91 _ (Bx.new w2 91 (zarr fun _ => (0,0))) (by rw [zarr_size]; kernel_rfl) (by rw [zarr_size]) (zarr_one _) ?_; replace HB1:=(HB1.alloc HB1.size (.cells (zarr fun _ => (0,0)) 91)).setRow (g:=w2.heap.size) HB1.size (zarr fun _ => (0,0)); generalize World.setRow _ _ _ = w3 at *))
 refine bodyPost_ret (v:=.tuple #[.int .i64 0,.int .i64 0,.int .i64 9]) (by simp [results,Try.results38,go_sem]) rfl ⟨rfl,HB1⟩
end Go.Proofs.Ytgbogdckmfencaa

/-! tame returns. -/
namespace Go.Proofs.Ytgbogdckmfencaa
open Go Go.RowKit
def SomeB (w : World) (e : Ending) (w' : World) : Prop:=(∃ b : Bool,e = .returned (.bool b)) ∧ Below w.heap.size w w'
set_option maxRecDepth 100000 in
set_option maxHeartbeats 4000000 in
theorem tame_any (st z0 z1 : Int) (A : Option Addr) (n c : Nat) (es : List Ev) (w : World) (hn : n ≤ 1000) (hl : es.length = n) (hA : EvsAt w w.heap.size A es) :
  Calls Try.prog 36 #[.agg #[.int .i64 st,.int .i64 z0,.int .i64 z1,.slice A n c]] w (SomeB w):=by
 have HL:=Lib.hid hl
 clear hl
 have k0:=Bx.new w 26 #[.int .i64 st,.int .i64 z0,.int .i64 z1,.slice A n c]
 have hB0:=(Below.refl w.heap.size w).alloc (Nat.le_refl _) (.cells #[.int .i64 st,.int .i64 z0,.int .i64 z1,.slice A n c] 26)
 have H0:=Lib.hid (And.intro k0 hB0)
 clear k0 hB0
 go_enter Try.func36,Try.ntmps36
 go_upto_region 1 with fail
 go_cut [3] (fun v3 wx => ∃ b : Bool,v3 = .bool b ∧ Bx wx w.heap.size 26 #[.int .i64 st,.int .i64 z0,.int .i64 z1,.slice A n c] ∧ Below w.heap.size w wx)
 case first =>
  go_wp2_with fail
  all_goals go_meet
  all_goals exact ⟨_,rfl,H0.out.1,H0.out.2⟩
 case rest =>
  obtain ⟨b,rfl,k0,hB⟩:=hcut
  clear H0
  go_wp2_with fail
  go_loopw [4,3] (fun v4 v3 wr => ∃ (i : Nat) (b : Bool),i ≤ n ∧ v4 = .int .i64 i ∧ v3 = .bool b ∧ Bx wr w.heap.size 26 #[.int .i64 st,.int .i64 z0,.int .i64 z1,.slice A n c] ∧ Below w.heap.size w wr) (fun v4 _ _ => n - (intOf v4).toNat)
  case atStart => exact ⟨0,b,by omega,rfl,rfl,k0,hB⟩
  case round =>
   clear k0 hB
   obtain ⟨w4,rfl⟩ : ∃ x,x = wr:=⟨_,rfl⟩
   obtain ⟨i,b,hi,rfl,rfl,k0,hB⟩:=hrel
   by_cases hin : i < n
   ·have hie : i < es.length:=by rw [HL.out]; exact hin
    obtain ⟨ad,rfl,hab,q0,q1,q2,q3,q4⟩:=(EvsAt.below hA hB).at_ hie
    generalize es[i] = e at *
    obtain ⟨kd,sh,ld,c0,c1⟩:=e
    dsimp only at *
    have HQ:=Lib.hid (And.intro q3 q4)
    have hsz:=hB.size
    clear q0 q1 q2 q3 q4 hA
    obtain ⟨l0,l1,l2,l3,lf,lz⟩:=k0.four
    go_upto_region 5 with fail
    clear l0 l1 l2 l3 lf lz
    cases b
    ·refine AnyG.startC (by kernel_rfl) ?_
     refine AnyG.takeP (i:=0) (v:=?_) rfl (by kernel_rfl) (fun _ _ _ h => h) rfl ?_ ?_
     rotate_left
     ·(intro w'; go_simp; try with_reducible rfl)
     try simp only [Act.put,Sp1,Sp2,Sp3,Sp4,Sp5,Sp6]
     refine AnyG.takeP (i:=1) (v:=?_) rfl (by kernel_rfl) (fun _ _ _ h => h) rfl ?_ ?_
     rotate_left
     ·(intro w'; go_simp; try with_reducible rfl)
     try simp only [Act.put,Sp1,Sp2,Sp3,Sp4,Sp5,Sp6]
     refine AnyG.enter (fun w' : World => Below w4.heap.size w4 w') (fun i => true) ?_
     have hS : (fun w' : World => Below w4.heap.size w4 w') (World.drew _):=(Below.refl _ _).drew
     refine AnyG.takeNC (i:=2) rfl (by kernel_rfl) (fun _ _ _ h => h) (by first | (simp [Region.wanted,yielded]; done) | simp [Region.wanted,yielded,undef]) hS ?_
     try simp only [Act.put,Sp1,Sp2,Sp3,Sp4,Sp5,Sp6]
     refine AnyG.takeNC (i:=3) rfl (by kernel_rfl) (fun _ _ _ h => h) (by first | (simp [Region.wanted,yielded]; done) | simp [Region.wanted,yielded,undef]) hS ?_
     try simp only [Act.put,Sp1,Sp2,Sp3,Sp4,Sp5,Sp6]
     refine AnyG.takeNC (i:=4) rfl (by kernel_rfl) (fun _ _ _ h => h) (by first | (simp [Region.wanted,yielded]; done) | simp [Region.wanted,yielded,undef]) hS ?_
     try simp only [Act.put,Sp1,Sp2,Sp3,Sp4,Sp5,Sp6]
     refine AnyG.takeNC (i:=5) rfl (by kernel_rfl) (fun _ _ _ h => h) (by first | (simp [Region.wanted,yielded]; done) | simp [Region.wanted,yielded,undef]) hS ?_
     try simp only [Act.put,Sp1,Sp2,Sp3,Sp4,Sp5,Sp6]
     refine AnyG.takeNC (i:=6) rfl (by kernel_rfl) (fun _ _ _ h => h) (by first | (simp [Region.wanted,yielded]; done) | simp [Region.wanted,yielded,undef]) hS ?_
     try simp only [Act.put,Sp1,Sp2,Sp3,Sp4,Sp5,Sp6]
     refine AnyG.takeNC (i:=7) rfl (by kernel_rfl) (fun _ _ _ h => h) (by first | (simp [Region.wanted,yielded]; done) | simp [Region.wanted,yielded,undef]) hS ?_
     try simp only [Act.put,Sp1,Sp2,Sp3,Sp4,Sp5,Sp6]
     refine AnyG.takeNC (i:=8) rfl (by kernel_rfl) (fun _ _ _ h => h) (by first | (simp [Region.wanted,yielded]; done) | simp [Region.wanted,yielded,undef]) hS ?_
     try simp only [Act.put,Sp1,Sp2,Sp3,Sp4,Sp5,Sp6]
     refine AnyG.takeNC (i:=9) rfl (by kernel_rfl) (fun _ _ _ h => h) (by first | (simp [Region.wanted,yielded]; done) | simp [Region.wanted,yielded,undef]) hS ?_
     try simp only [Act.put,Sp1,Sp2,Sp3,Sp4,Sp5,Sp6]
     refine AnyG.takeNC (i:=10) rfl (by kernel_rfl) (fun _ _ _ h => h) (by first | (simp [Region.wanted,yielded]; done) | simp [Region.wanted,yielded,undef]) hS ?_
     try simp only [Act.put,Sp1,Sp2,Sp3,Sp4,Sp5,Sp6]
     refine AnyG.takeNC (i:=11) rfl (by kernel_rfl) (fun _ _ _ h => h) (by first | (simp [Region.wanted,yielded]; done) | simp [Region.wanted,yielded,undef]) hS ?_
     try simp only [Act.put,Sp1,Sp2,Sp3,Sp4,Sp5,Sp6]
     refine AnyG.takeNC (i:=12) rfl (by kernel_rfl) (fun _ _ _ h => h) (by first | (simp [Region.wanted,yielded]; done) | simp [Region.wanted,yielded,undef]) hS ?_
     try simp only [Act.put,Sp1,Sp2,Sp3,Sp4,Sp5,Sp6]
     refine AnyG.takeNC (i:=13) rfl (by kernel_rfl) (fun _ _ _ h => h) (by first | (simp [Region.wanted,yielded]; done) | simp [Region.wanted,yielded,undef]) hS ?_
     try simp only [Act.put,Sp1,Sp2,Sp3,Sp4,Sp5,Sp6]
     refine AnyG.takeNC (i:=14) rfl (by kernel_rfl) (fun _ _ _ h => h) (by first | (simp [Region.wanted,yielded]; done) | simp [Region.wanted,yielded,undef]) hS ?_
     try simp only [Act.put,Sp1,Sp2,Sp3,Sp4,Sp5,Sp6]
     refine AnyG.takeNC (i:=15) rfl (by kernel_rfl) (fun _ _ _ h => h) (by first | (simp [Region.wanted,yielded]; done) | simp [Region.wanted,yielded,undef]) hS ?_
     try simp only [Act.put,Sp1,Sp2,Sp3,Sp4,Sp5,Sp6]
     refine AnyG.takeNC (i:=16) rfl (by kernel_rfl) (fun _ _ _ h => h) (by first | (simp [Region.wanted,yielded]; done) | simp [Region.wanted,yielded,undef]) hS ?_
     try simp only [Act.put,Sp1,Sp2,Sp3,Sp4,Sp5,Sp6]
     refine AnyG.takeNC (i:=17) rfl (by kernel_rfl) (fun _ _ _ h => h) (by first | (simp [Region.wanted,yielded]; done) | simp [Region.wanted,yielded,undef]) hS ?_
     try simp only [Act.put,Sp1,Sp2,Sp3,Sp4,Sp5,Sp6]
     refine AnyG.takeC (i:=18) (v:=?_) rfl (by kernel_rfl) (fun _ _ _ h => h) rfl ?_ hS ?_
     rotate_left
     ·(intro w' hSw; (try dsimp only at hSw); go_simp; try with_reducible rfl)
     try simp only [Act.put,Sp1,Sp2,Sp3,Sp4,Sp5,Sp6]
     refine AnyG.takeC (i:=19) (v:=?_) rfl (by kernel_rfl) (fun _ _ _ h => h) rfl ?_ hS ?_
     rotate_left
     ·(intro w' hSw; (try dsimp only at hSw); go_simp; try with_reducible rfl)
     try simp only [Act.put,Sp1,Sp2,Sp3,Sp4,Sp5,Sp6]
     refine AnyG.done (by kernel_rfl) ?_ _
     go_simp
     go_wp2_with fail
     go_roundw
     case rel => exact ⟨i + 1,_,by omega,by go_num,rfl,k0.drew,hB.drew⟩
     case measure => simp [intOf]; omega
    ·refine AnyG.startC (by kernel_rfl) ?_
     refine AnyG.takeP (i:=0) (v:=?_) rfl (by kernel_rfl) (fun _ _ _ h => h) rfl ?_ ?_
     rotate_left
     ·(intro w'; go_simp; try with_reducible rfl)
     try simp only [Act.put,Sp1,Sp2,Sp3,Sp4,Sp5,Sp6]
     refine AnyG.takeP (i:=1) (v:=?_) rfl (by kernel_rfl) (fun _ _ _ h => h) rfl ?_ ?_
     rotate_left
     ·(intro w'; go_simp; try with_reducible rfl)
     try simp only [Act.put,Sp1,Sp2,Sp3,Sp4,Sp5,Sp6]
     refine AnyG.enter (fun w' : World => Below w4.heap.size w4 w') (fun i => true) ?_
     have hS : (fun w' : World => Below w4.heap.size w4 w') (World.drew _):=(Below.refl _ _).drew
     refine AnyG.takeGC (i:=2) (v:=?_) rfl (by kernel_rfl) (fun _ _ _ h => h) (by first | (simp [Region.wanted,yielded]; done) | simp [Region.wanted,yielded,undef]) ?_ hS ?_
     rotate_left
     ·(intro w' hSw; (try dsimp only at hSw); go_simp; try with_reducible rfl)
     try simp only [Act.put,Sp1,Sp2,Sp3,Sp4,Sp5,Sp6]
     refine AnyG.takeGC (i:=3) (v:=?_) rfl (by kernel_rfl) (fun _ _ _ h => h) (by first | (simp [Region.wanted,yielded]; done) | simp [Region.wanted,yielded,undef]) ?_ hS ?_
     rotate_left
     ·(intro w' hSw; (try dsimp only at hSw); obtain ⟨l0,l1,l2,l3,lf,lz⟩:=(k0.call hSw).four; go_simp; try with_reducible rfl)
     try simp only [Act.put,Sp1,Sp2,Sp3,Sp4,Sp5,Sp6]
     refine AnyG.takeGC (i:=4) (v:=?_) rfl (by kernel_rfl) (fun _ _ _ h => h) (by first | (simp [Region.wanted,yielded]; done) | simp [Region.wanted,yielded,undef]) ?_ hS ?_
     rotate_left
     ·(intro w' hSw; (try dsimp only at hSw); go_simp; try with_reducible rfl)
     try simp only [Act.put,Sp1,Sp2,Sp3,Sp4,Sp5,Sp6]
     refine AnyG.takeGC (i:=5) (v:=?_) rfl (by kernel_rfl) (fun _ _ _ h => h) (by first | (simp [Region.wanted,yielded]; done) | simp [Region.wanted,yielded,undef]) ?_ hS ?_
     rotate_left
     ·(intro w' hSw; (try dsimp only at hSw); go_simp; try with_reducible rfl)
     try simp only [Act.put,Sp1,Sp2,Sp3,Sp4,Sp5,Sp6]
     refine AnyG.takeGC (i:=6) (v:=?_) rfl (by kernel_rfl) (fun _ _ _ h => h) (by first | (simp [Region.wanted,yielded]; done) | simp [Region.wanted,yielded,undef]) ?_ hS ?_
     rotate_left
     ·(intro w' hSw; (try dsimp only at hSw); go_simp; try with_reducible rfl)
     try simp only [Act.put,Sp1,Sp2,Sp3,Sp4,Sp5,Sp6]
     refine AnyG.takeGC (i:=7) (v:=?_) rfl (by kernel_rfl) (fun _ _ _ h => h) (by first | (simp [Region.wanted,yielded]; done) | simp [Region.wanted,yielded,undef]) ?_ hS ?_
     rotate_left
     ·(intro w' hSw; (try dsimp only at hSw); go_simp; try with_reducible rfl)
     try simp only [Act.put,Sp1,Sp2,Sp3,Sp4,Sp5,Sp6]
     refine AnyG.takeGC (i:=8) (v:=?_) rfl (by kernel_rfl) (fun _ _ _ h => h) (by first | (simp [Region.wanted,yielded]; done) | simp [Region.wanted,yielded,undef]) ?_ hS ?_
     rotate_left
     ·(intro w' hSw; (try dsimp only at hSw); have q4:=(hSw.cell (p:=⟨(ad.add (i * 5)).block,(ad.add (i * 5)).off + 4,none⟩) (by show (ad.add (i * 5)).block < _; rw [add_block]; omega)).trans HQ.out.2; go_simp; try with_reducible rfl)
     try simp only [Act.put,Sp1,Sp2,Sp3,Sp4,Sp5,Sp6]
     refine AnyG.takeGC (i:=9) (v:=?_) rfl (by kernel_rfl) (fun _ _ _ h => h) (by first | (simp [Region.wanted,yielded]; done) | simp [Region.wanted,yielded,undef]) ?_ hS ?_
     rotate_left
     ·(intro w' hSw; (try dsimp only at hSw); go_simp; try with_reducible rfl)
     try simp only [Act.put,Sp1,Sp2,Sp3,Sp4,Sp5,Sp6]
     refine AnyG.takeGC (i:=10) (v:=?_) rfl (by kernel_rfl) (fun _ _ _ h => h) (by first | (simp [Region.wanted,yielded]; done) | simp [Region.wanted,yielded,undef]) ?_ hS ?_
     rotate_left
     ·(intro w' hSw; (try dsimp only at hSw); obtain ⟨l0,l1,l2,l3,lf,lz⟩:=(k0.call hSw).four; go_simp; try with_reducible rfl)
     try simp only [Act.put,Sp1,Sp2,Sp3,Sp4,Sp5,Sp6]
     refine AnyG.takeGC (i:=11) (v:=?_) rfl (by kernel_rfl) (fun _ _ _ h => h) (by first | (simp [Region.wanted,yielded]; done) | simp [Region.wanted,yielded,undef]) ?_ hS ?_
     rotate_left
     ·(intro w' hSw; (try dsimp only at hSw); go_simp; try with_reducible rfl)
     try simp only [Act.put,Sp1,Sp2,Sp3,Sp4,Sp5,Sp6]
     refine AnyG.takeGC (i:=12) (v:=?_) rfl (by kernel_rfl) (fun _ _ _ h => h) (by first | (simp [Region.wanted,yielded]; done) | simp [Region.wanted,yielded,undef]) ?_ hS ?_
     rotate_left
     ·(intro w' hSw; (try dsimp only at hSw); go_simp; try with_reducible rfl)
     try simp only [Act.put,Sp1,Sp2,Sp3,Sp4,Sp5,Sp6]
     refine AnyG.takeGC (i:=13) (v:=?_) rfl (by kernel_rfl) (fun _ _ _ h => h) (by first | (simp [Region.wanted,yielded]; done) | simp [Region.wanted,yielded,undef]) ?_ hS ?_
     rotate_left
     ·(intro w' hSw; (try dsimp only at hSw); go_simp; try with_reducible rfl)
     try simp only [Act.put,Sp1,Sp2,Sp3,Sp4,Sp5,Sp6]
     refine AnyG.takeGC (i:=14) (v:=?_) rfl (by kernel_rfl) (fun _ _ _ h => h) (by first | (simp [Region.wanted,yielded]; done) | simp [Region.wanted,yielded,undef]) ?_ hS ?_
     rotate_left
     ·(intro w' hSw; (try dsimp only at hSw); go_simp; try with_reducible rfl)
     try simp only [Act.put,Sp1,Sp2,Sp3,Sp4,Sp5,Sp6]
     refine AnyG.takeGC (i:=15) (v:=?_) rfl (by kernel_rfl) (fun _ _ _ h => h) (by first | (simp [Region.wanted,yielded]; done) | simp [Region.wanted,yielded,undef]) ?_ hS ?_
     rotate_left
     ·(intro w' hSw; (try dsimp only at hSw); have q3:=(hSw.cell (p:=⟨(ad.add (i * 5)).block,(ad.add (i * 5)).off + 3,none⟩) (by show (ad.add (i * 5)).block < _; rw [add_block]; omega)).trans HQ.out.1; go_simp; try with_reducible rfl)
     try simp only [Act.put,Sp1,Sp2,Sp3,Sp4,Sp5,Sp6]
     refine AnyG.takeGC (i:=16) (v:=?_) rfl (by kernel_rfl) (fun _ _ _ h => h) (by first | (simp [Region.wanted,yielded]; done) | simp [Region.wanted,yielded,undef]) ?_ hS ?_
     rotate_left
     ·(intro w' hSw; (try dsimp only at hSw); go_simp; try with_reducible rfl)
     try simp only [Act.put,Sp1,Sp2,Sp3,Sp4,Sp5,Sp6]
     refine AnyG.takeGC (i:=17) (v:=?_) rfl (by kernel_rfl) (fun _ _ _ h => h) (by first | (simp [Region.wanted,yielded]; done) | simp [Region.wanted,yielded,undef]) ?_ hS ?_
     rotate_left
     ·(intro w' hSw; (try dsimp only at hSw); go_simp; try with_reducible rfl)
     try simp only [Act.put,Sp1,Sp2,Sp3,Sp4,Sp5,Sp6]
     refine AnyG.takeC (i:=18) (v:=?_) rfl (by kernel_rfl) (fun _ _ _ h => h) rfl ?_ hS ?_
     rotate_left
     ·(intro w' hSw; (try dsimp only at hSw); go_simp; try with_reducible rfl)
     try simp only [Act.put,Sp1,Sp2,Sp3,Sp4,Sp5,Sp6]
     refine AnyG.takeC (i:=19) (v:=?_) rfl (by kernel_rfl) (fun _ _ _ h => h) rfl ?_ hS ?_
     rotate_left
     ·(intro w' hSw; (try dsimp only at hSw); go_simp; try with_reducible rfl)
     try simp only [Act.put,Sp1,Sp2,Sp3,Sp4,Sp5,Sp6]
     refine AnyG.done (by kernel_rfl) ?_ _
     go_simp
     go_wp2_with fail
     go_roundw
     case rel => exact ⟨i + 1,_,by omega,by go_num,rfl,k0.drew,hB.drew⟩
     case measure => simp [intOf]; omega
   ·obtain ⟨l0,l1,l2,l3,lf,lz⟩:=k0.four
    go_wp2_with fail
    go_ret
    exact ⟨⟨_,rfl⟩,hB⟩
end Go.Proofs.Ytgbogdckmfencaa
