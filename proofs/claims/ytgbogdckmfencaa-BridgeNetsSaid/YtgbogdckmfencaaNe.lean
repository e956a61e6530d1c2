/- bridge.Net. -/
import Derived.Test.YtgbogdckmfencaaIn
import Derived.Test.YtgbogdckmfencaaFolM
import Derived.Test.YtgbogdckmfencaaOpM
set_option linter.unusedSimpArgs false
set_option linter.unusedVariables false
namespace Go.Proofs.Ytgbogdckmfencaa
open Go.RowKit Go.Shelf
/-- The net loads of the first event's zeros, with all that may follow. -/
def netOf (st : Int) (es : List Ev) (F B : List Int) (f : Nat → Int × Int) (n : Nat) : Int × Int:=covers (fun z => Tab (wtc st es F B) (folc es f) f n n (z + 200).toNat) (rngL (f 0).1 (f 0).2)
set_option maxRecDepth 100000 in
set_option maxHeartbeats 2000000 in
theorem net_bad (st z0 z1 : Int) (A : Option Addr) (n c : Nat) (es : List Ev) (FA : Option Addr) (fn fc : Nat) (BA : Option Addr) (bn bc : Nat) (fs bs d0 d1 : Int) (F B : List Int) (w : World) (hn : n ≤ 9223372036854775807) (hl : es.length = n) (hA : EvsAt w w.heap.size A es) (hfn : fn ≤ 9223372036854775807) (hbn : bn ≤ 9223372036854775807) (hf : F.length = fn) (hb : B.length = bn) (hF : Sl w w.heap.size 1 FA (ints F)) (hBs : Sl w w.heap.size 1 BA (ints B)) (hck : ckS st z0 z1 es F B fs bs d0 d1 ≠ 0) :
  Calls Try.prog 29 #[.agg #[.int .i64 st,.int .i64 z0,.int .i64 z1,.slice A n c],.agg #[.slice FA fn fc,.slice BA bn bc,.int .i64 fs,.int .i64 bs,.int .i64 d0,.int .i64 d1]] w fun e w' => e = .returned (.tuple #[.agg #[.int .i64 0,.int .i64 0],.int .i64 (ckS st z0 z1 es F B fs bs d0 d1)]) ∧ Below w.heap.size w w':=by
 have hc1 : (ckS st z0 z1 es F B fs bs d0 d1 != 0) = true:=by simpa using hck
 clear hck
 have HL:=Lib.hid hl
 have HF:=Lib.hid hf
 have HBn:=Lib.hid hb
 clear hl hf hb
 have HB0 : Below w.heap.size w (((w.alloc (.cells #[.int .i64 st,.int .i64 z0,.int .i64 z1,.slice A n c] 26)).alloc (.cells #[.slice FA fn fc,.slice BA bn bc,.int .i64 fs,.int .i64 bs,.int .i64 d0,.int .i64 d1] 50)).alloc (.cells #[.int .i64 0,.int .i64 0] 23)):=(((Below.refl _ _).alloc (Nat.le_refl _) _).alloc (by simp) _).alloc (by simp; omega) _
 have k1:=((Bx.new w 26 #[.int .i64 st,.int .i64 z0,.int .i64 z1,.slice A n c]).alloc (.cells #[.slice FA fn fc,.slice BA bn bc,.int .i64 fs,.int .i64 bs,.int .i64 d0,.int .i64 d1] 50)).alloc (.cells #[.int .i64 0,.int .i64 0] 23)
 have k2:=(Bx.at (w.alloc (.cells #[.int .i64 st,.int .i64 z0,.int .i64 z1,.slice A n c] 26)) 50 #[.slice FA fn fc,.slice BA bn bc,.int .i64 fs,.int .i64 bs,.int .i64 d0,.int .i64 d1] (n:=w.heap.size + 1) (by simp)).alloc (.cells #[.int .i64 0,.int .i64 0] 23)
 have k4:=Bx.at ((w.alloc (.cells #[.int .i64 st,.int .i64 z0,.int .i64 z1,.slice A n c] 26)).alloc (.cells #[.slice FA fn fc,.slice BA bn bc,.int .i64 fs,.int .i64 bs,.int .i64 d0,.int .i64 d1] 50)) 23 #[.int .i64 0,.int .i64 0] (n:=w.heap.size + 1 + 1) (by simp)
 have HK1:=Lib.hid k1
 have HK2:=Lib.hid k2
 have HK4:=Lib.hid k4
 clear k1 k2 k4
 go_enter Try.func29,Try.ntmps29
 go_wp2_with (first | (go_at_call 33; refine (checkSlip_any st z0 z1 A n c es FA fn fc BA bn bc fs bs d0 d1 F B _ hn HL.out ((hA.below HB0).more HB0.size) hfn hbn HF.out HBn.out ((hF.below HB0).more HB0.size) ((hBs.below HB0).more HB0.size)).mono ?_; rintro e w1 ⟨rfl,hb1⟩; have k1:=HK1.out.call hb1; have k2:=HK2.out.call hb1; have k4:=HK4.out.call hb1; have HB1:=HB0.trans (hb1.mono HB0.size); clear hb1; obtain ⟨a0,a1,a2,a3,af,az⟩:=k1.four; obtain ⟨r0,r1,rf,rz⟩:=k4.two))
 refine bodyPost_ret (v:=.tuple #[.agg #[.int .i64 0,.int .i64 0],.int .i64 (ckS st z0 z1 es F B fs bs d0 d1)]) (by simp [results,Try.results29,go_sem,r0,r1,World.cell?_setCell_same',World.cell?_setCell_other]) rfl ⟨rfl,?_⟩
 exact (HB1.setCell (p:=⟨w.heap.size + 1 + 1,0,none⟩) (by simp; omega) _).setCell (p:=⟨w.heap.size + 1 + 1,1,none⟩) (by simp; omega) _
set_option maxRecDepth 100000 in
set_option maxHeartbeats 2000000 in
theorem net_none (st z0 z1 : Int) (A : Option Addr) (n c : Nat) (es : List Ev) (FA : Option Addr) (fn fc : Nat) (BA : Option Addr) (bn bc : Nat) (fs bs d0 d1 : Int) (F B : List Int) (w : World) (hn : n ≤ 9223372036854775807) (hl : es.length = n) (hA : EvsAt w w.heap.size A es) (hfn : fn ≤ 9223372036854775807) (hbn : bn ≤ 9223372036854775807) (hf : F.length = fn) (hb : B.length = bn) (hF : Sl w w.heap.size 1 FA (ints F)) (hBs : Sl w w.heap.size 1 BA (ints B)) (hck : ckS st z0 z1 es F B fs bs d0 d1 = 0) (hckl : ckL st z0 z1 es = 0) (m : Nat) (hfit : Fits st z0 z1 es m) (hm : m < n) :
  Calls Try.prog 29 #[.agg #[.int .i64 st,.int .i64 z0,.int .i64 z1,.slice A n c],.agg #[.slice FA fn fc,.slice BA bn bc,.int .i64 fs,.int .i64 bs,.int .i64 d0,.int .i64 d1]] w fun e w' => e = .returned (.tuple #[.agg #[.int .i64 0,.int .i64 0],.int .i64 9]) ∧ Below w.heap.size w w':=by
 have HC:=Lib.hid hck
 clear hck
 have HL:=Lib.hid hl
 have HF:=Lib.hid hf
 have HBn:=Lib.hid hb
 clear hl hf hb
 have HB0 : Below w.heap.size w (((w.alloc (.cells #[.int .i64 st,.int .i64 z0,.int .i64 z1,.slice A n c] 26)).alloc (.cells #[.slice FA fn fc,.slice BA bn bc,.int .i64 fs,.int .i64 bs,.int .i64 d0,.int .i64 d1] 50)).alloc (.cells #[.int .i64 0,.int .i64 0] 23)):=(((Below.refl _ _).alloc (Nat.le_refl _) _).alloc (by simp) _).alloc (by simp; omega) _
 have k1:=((Bx.new w 26 #[.int .i64 st,.int .i64 z0,.int .i64 z1,.slice A n c]).alloc (.cells #[.slice FA fn fc,.slice BA bn bc,.int .i64 fs,.int .i64 bs,.int .i64 d0,.int .i64 d1] 50)).alloc (.cells #[.int .i64 0,.int .i64 0] 23)
 have k2:=(Bx.at (w.alloc (.cells #[.int .i64 st,.int .i64 z0,.int .i64 z1,.slice A n c] 26)) 50 #[.slice FA fn fc,.slice BA bn bc,.int .i64 fs,.int .i64 bs,.int .i64 d0,.int .i64 d1] (n:=w.heap.size + 1) (by simp)).alloc (.cells #[.int .i64 0,.int .i64 0] 23)
 have k4:=Bx.at ((w.alloc (.cells #[.int .i64 st,.int .i64 z0,.int .i64 z1,.slice A n c] 26)).alloc (.cells #[.slice FA fn fc,.slice BA bn bc,.int .i64 fs,.int .i64 bs,.int .i64 d0,.int .i64 d1] 50)) 23 #[.int .i64 0,.int .i64 0] (n:=w.heap.size + 1 + 1) (by simp)
 have HK1:=Lib.hid k1
 have HK2:=Lib.hid k2
 have HK4:=Lib.hid k4
 clear k1 k2 k4
 go_enter Try.func29,Try.ntmps29
 go_wp2_with (first | (go_at_call 33; refine (checkSlip_any st z0 z1 A n c es FA fn fc BA bn bc fs bs d0 d1 F B _ hn HL.out ((hA.below HB0).more HB0.size) hfn hbn HF.out HBn.out ((hF.below HB0).more HB0.size) ((hBs.below HB0).more HB0.size)).mono ?_; rintro e w1 ⟨rfl,hb1⟩; have k1:=HK1.out.call hb1; have k2:=HK2.out.call hb1; have k4:=HK4.out.call hb1; have HB1:=HB0.trans (hb1.mono HB0.size); clear hb1; obtain ⟨a0,a1,a2,a3,af,az⟩:=k1.four; obtain ⟨r0,r1,rf,rz⟩:=k4.two; rw [HC.out]) | (go_at_call 58; refine (zerosOf_none st z0 z1 A n c es _ HL.out ((hA.below HB1).more HB1.size) hckl m hfit hm).mono ?_; rintro e w2 ⟨rfl,hb2⟩; replace k1:=k1.call hb2; replace k2:=k2.call hb2; replace k4:=k4.call hb2; replace HB1:=HB1.trans (hb2.mono HB1.size); clear hb2; obtain ⟨a0,a1,a2,a3,af,az⟩:=k1.four; obtain ⟨r0,r1,rf,rz⟩:=k4.two) | ((with_reducible (show wpList _ _ _ (⟨none,.store 91 (.tmp 7) _,_,_,_,_⟩ :: _) _ _)); rw [← zarr0]; refine wpList_store_row rfl 91 (.tmp 7) (.tmp 19) rfl w2.heap.size _ rfl rfl 91 _ (Bx.new w2 91 (zarr fun _ => (0,0))) (by rw [zarr_size]; kernel_rfl) (by rw [zarr_size]) (zarr_one _) ?_; replace k4:=(k4.alloc (.cells (zarr fun _ => (0,0)) 91)).rowfar (g':=w2.heap.size) (cs':=zarr fun _ => (0,0)) (by have:=k4.lt; omega); replace HB1:=(HB1.alloc HB1.size (.cells (zarr fun _ => (0,0)) 91)).setRow (g:=w2.heap.size) HB1.size (zarr fun _ => (0,0)); generalize World.setRow _ _ _ = w3 at *; obtain ⟨r0,r1,rf,rz⟩:=k4.two))
 refine bodyPost_ret (v:=.tuple #[.agg #[.int .i64 0,.int .i64 0],.int .i64 9]) (by simp [results,Try.results29,go_sem,r0,r1,World.cell?_setCell_same',World.cell?_setCell_other]) rfl ⟨rfl,?_⟩
 exact (HB1.setCell (p:=⟨w.heap.size + 1 + 1,0,none⟩) (by simp; omega) _).setCell (p:=⟨w.heap.size + 1 + 1,1,none⟩) (by simp; omega) _
set_option maxRecDepth 100000 in
set_option maxHeartbeats 2000000 in
theorem net_good (st z0 z1 : Int) (A : Option Addr) (n c : Nat) (es : List Ev) (FA : Option Addr) (fn fc : Nat) (BA : Option Addr) (bn bc : Nat) (fs bs d0 d1 : Int) (F B : List Int) (w : World) (hn : n ≤ 9223372036854775807) (hl : es.length = n) (hA : EvsAt w w.heap.size A es) (hfn : fn ≤ 9223372036854775807) (hbn : bn ≤ 9223372036854775807) (hf : F.length = fn) (hb : B.length = bn) (hF : Sl w w.heap.size 1 FA (ints F)) (hBs : Sl w w.heap.size 1 BA (ints B)) (f : Nat → Int × Int) (hck : ckS st z0 z1 es F B fs bs d0 d1 = 0) (hlog : LogOk st z0 z1 es) (hckl : ckL st z0 z1 es = 0) (hfit : Fits st z0 z1 es n) (hn1 : 1 ≤ n) (hfz : zst st z0 z1 es 0 = f)
  (hfb : ∀ i,i < n → -200 ≤ (f i).1 ∧ (f i).1 ≤ 200 ∧ -200 ≤ (f i).2 ∧ (f i).2 ≤ 200) (hfn4 : fn ≤ 4) (hbn4 : bn ≤ 4) (hF1 : ∀ x ∈ F,0 ≤ x ∧ x ≤ 14) (hB1 : ∀ x ∈ B,0 ≤ x ∧ x ≤ 14)
  (g1 : 0 ≤ fs) (g2 : fs ≤ 2) (g3 : 0 ≤ bs) (g4 : bs ≤ 2) (g5 : 0 ≤ d0) (g6 : d0 ≤ 200) (g7 : 0 ≤ d1) (g8 : d1 ≤ 200) (hnb : Bd 100000000000 (netOf st es F B f n)) (hds : Bd 100000000000 (dsLo fs bs d0 d1,dsHi fs bs d0 d1)) :
  Calls Try.prog 29 #[.agg #[.int .i64 st,.int .i64 z0,.int .i64 z1,.slice A n c],.agg #[.slice FA fn fc,.slice BA bn bc,.int .i64 fs,.int .i64 bs,.int .i64 d0,.int .i64 d1]] w fun e w' => e = .returned (.tuple #[.agg #[.int .i64 ((netOf st es F B f n).1 + dsLo fs bs d0 d1),.int .i64 ((netOf st es F B f n).2 + dsHi fs bs d0 d1)],.int .i64 0]) ∧ Below w.heap.size w w':=by
 have HC:=Lib.hid hck
 have HFB:=Lib.hid hfb
 have HF1:=Lib.hid hF1
 have HB1':=Lib.hid hB1
 have HCL:=Lib.hid hckl
 have HFIT:=Lib.hid hfit
 have HFZ:=Lib.hid hfz
 clear hck hfb hF1 hB1 hckl hfit hfz
 obtain ⟨nb1,nb2,nb3,nb4⟩:=hnb
 obtain ⟨db1,db2,db3,db4⟩:=hds
 dsimp only at db1 db2 db3 db4
 obtain ⟨N,hN⟩ : ∃ N,netOf st es F B f n = N:=⟨_,rfl⟩
 obtain ⟨lo,hlo⟩ : ∃ lo,dsLo fs bs d0 d1 = lo:=⟨_,rfl⟩
 obtain ⟨hi,hhi⟩ : ∃ hi,dsHi fs bs d0 d1 = hi:=⟨_,rfl⟩
 rw [hN] at nb1 nb2 nb3 nb4 ⊢
 rw [hlo] at db1 db2 ⊢
 rw [hhi] at db3 db4 ⊢
 have HN:=Lib.hid hN
 have HLO:=Lib.hid hlo
 have HHI:=Lib.hid hhi
 clear hN hlo hhi
 have HL:=Lib.hid hl
 have HF:=Lib.hid hf
 have HBn:=Lib.hid hb
 clear hl hf hb
 have HB0 : Below w.heap.size w (((w.alloc (.cells #[.int .i64 st,.int .i64 z0,.int .i64 z1,.slice A n c] 26)).alloc (.cells #[.slice FA fn fc,.slice BA bn bc,.int .i64 fs,.int .i64 bs,.int .i64 d0,.int .i64 d1] 50)).alloc (.cells #[.int .i64 0,.int .i64 0] 23)):=(((Below.refl _ _).alloc (Nat.le_refl _) _).alloc (by simp) _).alloc (by simp; omega) _
 have k1:=((Bx.new w 26 #[.int .i64 st,.int .i64 z0,.int .i64 z1,.slice A n c]).alloc (.cells #[.slice FA fn fc,.slice BA bn bc,.int .i64 fs,.int .i64 bs,.int .i64 d0,.int .i64 d1] 50)).alloc (.cells #[.int .i64 0,.int .i64 0] 23)
 have k2:=(Bx.at (w.alloc (.cells #[.int .i64 st,.int .i64 z0,.int .i64 z1,.slice A n c] 26)) 50 #[.slice FA fn fc,.slice BA bn bc,.int .i64 fs,.int .i64 bs,.int .i64 d0,.int .i64 d1] (n:=w.heap.size + 1) (by simp)).alloc (.cells #[.int .i64 0,.int .i64 0] 23)
 have k4:=Bx.at ((w.alloc (.cells #[.int .i64 st,.int .i64 z0,.int .i64 z1,.slice A n c] 26)).alloc (.cells #[.slice FA fn fc,.slice BA bn bc,.int .i64 fs,.int .i64 bs,.int .i64 d0,.int .i64 d1] 50)) 23 #[.int .i64 0,.int .i64 0] (n:=w.heap.size + 1 + 1) (by simp)
 have HK1:=Lib.hid k1
 have HK2:=Lib.hid k2
 have HK4:=Lib.hid k4
 clear k1 k2 k4
 go_enter Try.func29,Try.ntmps29
 go_wp2_with (first | (go_at_call 33; refine (checkSlip_any st z0 z1 A n c es FA fn fc BA bn bc fs bs d0 d1 F B _ hn HL.out ((hA.below HB0).more HB0.size) hfn hbn HF.out HBn.out ((hF.below HB0).more HB0.size) ((hBs.below HB0).more HB0.size)).mono ?_; rintro e w1 ⟨rfl,hb1⟩; have k1:=HK1.out.call hb1; have k2:=HK2.out.call hb1; have k4:=HK4.out.call hb1; have HB1:=HB0.trans (hb1.mono HB0.size); clear hb1; obtain ⟨a0,a1,a2,a3,af,az⟩:=k1.four; obtain ⟨r0,r1,rf,rz⟩:=k4.two; rw [HC.out]) | (go_at_call 58; refine (zerosOf_all st z0 z1 A n c es _ HL.out ((hA.below HB1).more HB1.size) HCL.out HFIT.out).mono ?_; rintro e w2 ⟨rfl,hb2⟩; rw [HFZ.out]; replace k1:=k1.call hb2; replace k2:=k2.call hb2; replace k4:=k4.call hb2; replace HB1:=HB1.trans (hb2.mono HB1.size); clear hb2; obtain ⟨a0,a1,a2,a3,af,az⟩:=k1.four; obtain ⟨r0,r1,rf,rz⟩:=k4.two) | ((with_reducible (show wpList _ _ _ (⟨none,.store 91 (.tmp 7) _,_,_,_,_⟩ :: _) _ _)); rw [← zarr0]; refine wpList_store_row rfl 91 (.tmp 7) (.tmp 19) rfl w2.heap.size _ rfl rfl 91 _ (Bx.new w2 91 (zarr fun _ => (0,0))) (by rw [zarr_size]; kernel_rfl) (by rw [zarr_size,zarr_size]) (zarr_one _) ?_; replace k1:=(k1.alloc (.cells (zarr fun _ => (0,0)) 91)).rowfar (g':=w2.heap.size) (cs':=zarr f) (by have:=k1.lt; omega); replace k2:=(k2.alloc (.cells (zarr fun _ => (0,0)) 91)).rowfar (g':=w2.heap.size) (cs':=zarr f) (by have:=k2.lt; omega); replace k4:=(k4.alloc (.cells (zarr fun _ => (0,0)) 91)).rowfar (g':=w2.heap.size) (cs':=zarr f) (by have:=k4.lt; omega); have k7:=(Bx.new w2 91 (zarr fun _ => (0,0))).row (cs':=zarr f); replace HB1:=(HB1.alloc HB1.size (.cells (zarr fun _ => (0,0)) 91)).setRow (g:=w2.heap.size) HB1.size (zarr f); generalize World.setRow _ _ _ = w3 at *; obtain ⟨r0,r1,rf,rz⟩:=k4.two))
 have hb0 : w.heap.size + 2 < w3.heap.size:=by have:=k4.lt; omega
 obtain ⟨a0,a1,a2,a3,af,az⟩:=k1.four
 obtain ⟨s0,s1,s2,s3,s4,s5,sf,sz⟩:=k2.six
 have hbw : w.heap.size ≤ w3.heap.size:=HB1.size
 refine AnyG.start (fun w' : World => Below w3.heap.size w3 w') (fun i => i != 9 && i != 10) (by kernel_rfl) ?_
 have hS : (fun w' : World => Below w3.heap.size w3 w') (World.drew _):=(Below.refl _ _).drew
 refine AnyG.take (i:=0) (v:=?_) rfl (by kernel_rfl) (fun _ _ _ h => h) rfl ?_ hS ?_
 rotate_left
 ·(intro w' hSw; (try dsimp only at hSw); have a0:=cellC hSw a0; have a1:=cellC hSw a1; have a2:=cellC hSw a2; have a3:=cellC hSw a3; go_simp; try with_reducible rfl)
 try simp only [Act.put,Sp4,Sp5,Sp6]
 refine AnyG.take (i:=1) (v:=?_) rfl (by kernel_rfl) (fun _ _ _ h => h) rfl ?_ hS ?_
 rotate_left
 ·(intro w' hSw; (try dsimp only at hSw); refine run_load_bx 91 (.tmp 7) ?_ w2.heap.size ?_ 91 (zarr f) _ (k7.call hSw) Try.underlying91 rfl (by rw [zarr_size]; kernel_rfl) <;> rfl)
 try simp only [Act.put,Sp4,Sp5,Sp6]
 refine AnyG.take (i:=2) (v:=?_) rfl (by kernel_rfl) (fun _ _ _ h => h) rfl ?_ hS ?_
 rotate_left
 ·(intro w' hSw; (try dsimp only at hSw); have a0:=cellC hSw a0; have a1:=cellC hSw a1; have a2:=cellC hSw a2; have a3:=cellC hSw a3; go_simp; try with_reducible rfl)
 try simp only [Act.put,Sp4,Sp5,Sp6]
 refine AnyG.take (i:=3) (v:=?_) rfl (by kernel_rfl) (fun _ _ _ h => h) rfl ?_ hS ?_
 rotate_left
 ·(intro w' hSw; (try dsimp only at hSw); have s0:=cellC hSw s0; have s1:=cellC hSw s1; have s2:=cellC hSw s2; have s3:=cellC hSw s3; have s4:=cellC hSw s4; have s5:=cellC hSw s5; go_simp; try with_reducible rfl)
 try simp only [Act.put,Sp4,Sp5,Sp6]
 refine AnyG.take (i:=6) (v:=?_) rfl (by kernel_rfl) (fun _ _ _ h => h) rfl ?_ hS ?_
 rotate_left
 ·(intro w' hSw; (try dsimp only at hSw); have s0:=cellC hSw s0; have s1:=cellC hSw s1; have s2:=cellC hSw s2; have s3:=cellC hSw s3; have s4:=cellC hSw s4; have s5:=cellC hSw s5; go_simp; try with_reducible rfl)
 try simp only [Act.put,Sp4,Sp5,Sp6]
 refine RegRel.AnyG.rel [0,1,2,3,6] [9,10] [[],[],[],[],[],[4],[],[4,5],[4,5,7],[4,5,7,8],[4,5,7,8,9]] [(29,4),(30,5),(32,7),(33,8),(5,10)] [(4,fun vs w1 => ∃ gl gm m,vs 4 = .func (.func 97) #[] #[.pointer (some ⟨gl,0,none⟩),.pointer (some ⟨gm,0,none⟩)] ∧ Bx w1 gl 26 #[.int .i64 st,.int .i64 z0,.int .i64 z1,.slice A n c] ∧ Bx w1 gm 113 #[.map (some m)] ∧ w1.ownsMap Try.prog 3 (plainElem Try.prog 3) m 8 (wmap F B)),(5,fun vs _ => vs 5 = .agg #[.int .i64 N.1,.int .i64 N.2]),(7,fun vs _ => vs 7 = .agg #[.int .i64 lo,.int .i64 hi]),(8,fun vs _ => vs 8 = .agg #[.int .i64 (N.1 + lo),.int .i64 (N.2 + hi)])]
  (by kernel_rfl) (by kernel_rfl) (by kernel_rfl) (by decide) (by decide) (fun _ h => Below.trans ((Below.refl w3.heap.size w3).drew) h) ?hst ?hcg ?hstep ?hfin
 case hst => exact ⟨fun _ _ _ ⟨gl,gm,m,h1,h2,h3,h4⟩ hb => ⟨gl,gm,m,h1,h2.call hb,h3.call hb,ownsMap_below h4 hb h4.lt⟩,fun _ _ _ h _ => h,fun _ _ _ h _ => h,fun _ _ _ h _ => h,trivial⟩
 case hcg => exact ⟨fun _ _ _ he ⟨gl,gm,m,h1,h2⟩ => ⟨gl,gm,m,(he 4 (by simp)).trans h1,h2⟩,fun _ _ _ he h => (he 5 (by simp)).trans h,fun _ _ _ he h => (he 7 (by simp)).trans h,fun _ _ _ he h => (he 8 (by simp)).trans h,trivial⟩
 case hstep =>
  refine ⟨?_,?_,?_,?_,trivial⟩
  ·rintro vs v1 - hv
   refine ⟨_,_,rfl,rfl,?_⟩
   clear hS
   simp only [RegRel.fillT,List.foldl_cons,List.foldl_nil,Sp4,Sp5,Sp6]
   have hBv : Below w.heap.size w v1:=HB1.trans ((((Below.refl w3.heap.size w3).drew).trans hv).mono hbw)
   go_simp
   refine (weigher_any st z0 z1 A n c FA fn fc BA bn bc fs bs d0 d1 F B _ HF.out HBn.out hfn4 hbn4 ((hF.below hBv).more hBv.size) ((hBs.below hBv).more hBv.size) HF1.out HB1'.out).mono ?_
   rintro rr v2 ⟨⟨gl,gm,m,rfl,_,_,q1,q2,q3⟩,hb2⟩
   exact ⟨⟨gl,gm,rfl,q1,m,q2,q3⟩,hb2⟩
  ·rintro vs v1 ⟨⟨gl,gm,m,h4,hk1,hk2,hown⟩,-⟩ hv
   refine ⟨_,_,rfl,rfl,?_⟩
   clear hS
   try dsimp only at h4
   simp only [RegRel.fillT,List.foldl_cons,List.foldl_nil,Sp4,Sp5,Sp6]
   simp only [h4]
   clear h4
   have hBv : Below w.heap.size w v1:=HB1.trans ((((Below.refl w3.heap.size w3).drew).trans hv).mono hbw)
   go_simp
   refine (netLoads_any (.int .i64 st) (.int .i64 z0) (.int .i64 z1) (.slice A n c) _ (f 0).1 (f 0).2 f n (Tab (wtc st es F B) (folc es f) f n n) v1 hn1 (by rw [← HL.out]; exact hlog.n) rfl (HFB.out 0 hn1).1 (HFB.out 0 hn1).2.2.2 (HFB.out 0 hn1).2.1 (HFB.out 0 hn1).2.2.1 (fun W hW => w92_at st z0 z1 A n c es F B f gl gm m v1 hlog HL.out hn1 HFB.out ((hA.below hBv).more hBv.size) hk1 hk2 hown W hW)).mono ?_
   rintro rr v2 ⟨rfl,hb2⟩
   first | exact ⟨by rw [← HN.out]; rfl,hb2,rfl⟩ | exact ⟨by rw [← HN.out]; rfl,hb2⟩
  ·rintro vs v1 ⟨⟨gl,gm,m,h4,hk1,hk2,hown⟩,h5,-⟩ hv
   refine ⟨_,_,rfl,rfl,?_⟩
   clear hS
   try dsimp only at h4 h5
   simp only [RegRel.fillT,List.foldl_cons,List.foldl_nil,Sp4,Sp5,Sp6]
   clear h4 h5
   go_simp
   refine (driverShare_any FA fn fc BA bn bc fs bs d0 d1 _ g1 g2 g3 g4 g5 g6 g7 g8).mono ?_
   rintro rr v2 ⟨rfl,hb2⟩
   rw [HLO.out,HHI.out]
   first | exact ⟨rfl,hb2,rfl⟩ | exact ⟨rfl,hb2⟩
  ·rintro vs v1 ⟨⟨gl,gm,m,h4,hk1,hk2,hown⟩,h5,h7,-⟩ hv
   refine ⟨_,_,rfl,rfl,?_⟩
   clear hS
   try dsimp only at h4 h5 h7
   simp only [RegRel.fillT,List.foldl_cons,List.foldl_nil,Sp4,Sp5,Sp6]
   simp only [h5,h7]
   clear h4 h5 h7
   go_simp
   refine (plus_any _ _ _ _ _ (by omega) (by omega) (by omega) (by omega) (by omega) (by omega) (by omega) (by omega)).mono ?_
   rintro rr v2 ⟨rfl,hb2⟩
   first | exact ⟨rfl,hb2,rfl,fun h => absurd h (by decide)⟩ | exact ⟨rfl,hb2,fun h => absurd h (by decide)⟩ | exact ⟨rfl,hb2,rfl⟩ | exact ⟨rfl,hb2⟩ | exact hb2 | trace_state
 case hfin =>
  rintro vs v1 ⟨⟨gl,gm,m,h4,hk1,hk2,hown⟩,h5,h7,h8,-⟩ hv
  clear hS
  try dsimp only at h4 h5 h7 h8
  simp only [List.filter_cons,List.contains_cons,List.contains_nil,Nat.reduceBEq,Bool.or_false,Bool.not_false,if_true,List.filter_nil]
  simp only [RegRel.fillT,List.foldl_cons,List.foldl_nil,Sp4,Sp5,Sp6]
  simp only [h4,h5,h7,h8]
  clear h4 h5 h7 h8
  have hvW : Below w3.heap.size w3 v1:=((Below.refl w3.heap.size w3).drew).trans hv
  obtain ⟨r0,r1,rf,rz⟩:=(k4.drew.call hv).two
  refine RegRel.wpOps_go rfl rfl ?_
  go_simp
  refine RegRel.wpOps_go rfl rfl ?_
  go_simp
  refine RegRel.wpOps_end ?_
  go_wp2_with fail
  refine bodyPost_ret (v:=.tuple #[.agg #[.int .i64 (N.1 + lo),.int .i64 (N.2 + hi)],.int .i64 0]) (by simp [results,Try.results29,go_sem,r0,r1,World.cell?_setCell_same',World.cell?_setCell_other]) rfl ⟨rfl,?_⟩
  exact ((HB1.trans (hvW.mono hbw)).setCell (p:=⟨w.heap.size + 1 + 1,0,none⟩) (by simp; omega) _).setCell (p:=⟨w.heap.size + 1 + 1,1,none⟩) (by simp; omega) _
end Go.Proofs.Ytgbogdckmfencaa
