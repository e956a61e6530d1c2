/- bridge.Best. -/
import Derived.Test.YtgbogdckmfencaaSqM
import Derived.Test.YtgbogdckmfencaaWi
set_option linter.unusedSimpArgs false
set_option linter.unusedVariables false
namespace Go.Proofs.Ytgbogdckmfencaa
open Go.RowKit Go.Shelf
/-- The event that is best to be known, of the first ones, and how wide the net weight is then. -/
def bst (L : Nat → Int) (d : Int) : Nat → Int × Int
 | 0 => (0,1073741824)
 | j + 1 => if L j + d < (bst L d j).2 then ((j : Int),L j + d) else bst L d j
theorem better_bst {L : Nat → Int} {d a b y : Int} {j : Nat} (h : bst L d j = (a,b)) (hy : L j = y) : better2 a b (j : Int) (y + d) = .agg #[.int .i64 (bst L d (j + 1)).1,.int .i64 (bst L d (j + 1)).2]:=by
 rw [bst,h,hy]
 unfold better2
 dsimp only
 split <;> rfl
set_option maxRecDepth 100000 in
set_option maxHeartbeats 2000000 in
theorem best_good (st z0 z1 : Int) (A : Option Addr) (n c : Nat) (es : List Ev) (FA : Option Addr) (fn fc : Nat) (BA : Option Addr) (bn bc : Nat) (fs bs d0 d1 : Int) (F B : List Int) (w : World) (hn : n ≤ 9223372036854775807) (hl : es.length = n) (hA : EvsAt w w.heap.size A es) (hfn : fn ≤ 9223372036854775807) (hbn : bn ≤ 9223372036854775807) (hf : F.length = fn) (hb : B.length = bn) (hF : Sl w w.heap.size 1 FA (ints F)) (hBs : Sl w w.heap.size 1 BA (ints B)) (f : Nat → Int × Int) (hck : ckS st z0 z1 es F B fs bs d0 d1 = 0) (hlog : LogOk st z0 z1 es) (hckl : ckL st z0 z1 es = 0) (hfit : Fits st z0 z1 es n) (hn1 : 1 ≤ n) (hfz : zst st z0 z1 es 0 = f)
  (hfb : ∀ i,i < n → -200 ≤ (f i).1 ∧ (f i).1 ≤ 200 ∧ -200 ≤ (f i).2 ∧ (f i).2 ≤ 200) (hfn4 : fn ≤ 4) (hbn4 : bn ≤ 4) (hF1 : ∀ x ∈ F,0 ≤ x ∧ x ≤ 14) (hB1 : ∀ x ∈ B,0 ≤ x ∧ x ≤ 14) (L : Nat → Int)
  (hL : Lw (Tbe (wtc st es F B) (folc es f) f (n - 1)) (Tab (wtc st es F B) (folc es f) f n n) f n = L) (hLb : ∀ k,0 ≤ L k ∧ L k ≤ 10000000000) (hs1 : 0 ≤ fs) (hs2 : fs ≤ 2) (hs3 : 0 ≤ bs) (hs4 : bs ≤ 2) (e1 : 0 ≤ d0) (e2 : d0 ≤ 200) (e3 : 0 ≤ d1) (e4 : d1 ≤ 200) :
  Calls Try.prog 38 #[.agg #[.int .i64 st,.int .i64 z0,.int .i64 z1,.slice A n c],.agg #[.slice FA fn fc,.slice BA bn bc,.int .i64 fs,.int .i64 bs,.int .i64 d0,.int .i64 d1]] w fun e w' => e = .returned (.tuple #[.int .i64 (bst L (dsHi fs bs d0 d1 - dsLo fs bs d0 d1) n).1,.int .i64 (bst L (dsHi fs bs d0 d1 - dsLo fs bs d0 d1) n).2,.int .i64 0]) ∧ Below w.heap.size w w':=by
 have HC:=Lib.hid hck
 have HFB:=Lib.hid hfb
 have HF1:=Lib.hid hF1
 have HB1':=Lib.hid hB1
 have HCL:=Lib.hid hckl
 have HFIT:=Lib.hid hfit
 have HFZ:=Lib.hid hfz
 have HLL:=Lib.hid hL
 have HLB:=Lib.hid hLb
 have hdb:=ds_bd (fs:=fs) (bs:=bs) e1 e2 e3 e4
 obtain ⟨hdb1,hdb2,hdb3,hdb4⟩:=hdb
 dsimp only at hdb1 hdb2 hdb3 hdb4
 obtain ⟨D,hD⟩ : ∃ D,dsHi fs bs d0 d1 - dsLo fs bs d0 d1 = D:=⟨_,rfl⟩
 rw [hD]
 have HD:=Lib.hid hD
 clear hD
 clear hck hfb hF1 hB1 hckl hfit hfz hL hLb
 have HL:=Lib.hid hl
 have HF:=Lib.hid hf
 have HBn:=Lib.hid hb
 clear hl hf hb
 have HB0 : Below w.heap.size w ((w.alloc (.cells #[.int .i64 st,.int .i64 z0,.int .i64 z1,.slice A n c] 26)).alloc (.cells #[.slice FA fn fc,.slice BA bn bc,.int .i64 fs,.int .i64 bs,.int .i64 d0,.int .i64 d1] 50)):=((Below.refl _ _).alloc (Nat.le_refl _) _).alloc (by simp) _
 have k1:=(Bx.new w 26 #[.int .i64 st,.int .i64 z0,.int .i64 z1,.slice A n c]).alloc (.cells #[.slice FA fn fc,.slice BA bn bc,.int .i64 fs,.int .i64 bs,.int .i64 d0,.int .i64 d1] 50)
 have k2:=Bx.at (w.alloc (.cells #[.int .i64 st,.int .i64 z0,.int .i64 z1,.slice A n c] 26)) 50 #[.slice FA fn fc,.slice BA bn bc,.int .i64 fs,.int .i64 bs,.int .i64 d0,.int .i64 d1] (n:=w.heap.size + 1) (by simp)
 have HK1:=Lib.hid k1
 have HK2:=Lib.hid k2
 clear k1 k2
 go_enter Try.func38,Try.ntmps38
 go_wp2_with (first | (go_at_call 33; refine (checkSlip_any st z0 z1 A n c es FA fn fc BA bn bc fs bs d0 d1 F B _ hn HL.out ((hA.below HB0).more HB0.size) hfn hbn HF.out HBn.out ((hF.below HB0).more HB0.size) ((hBs.below HB0).more HB0.size)).mono ?_; rintro e w1 ⟨rfl,hb1⟩; have k1:=HK1.out.call hb1; have k2:=HK2.out.call hb1; have HB1:=HB0.trans (hb1.mono HB0.size); clear hb1; obtain ⟨a0,a1,a2,a3,af,az⟩:=k1.four; rw [HC.out]) | (go_at_call 58; refine (zerosOf_all st z0 z1 A n c es _ HL.out ((hA.below HB1).more HB1.size) HCL.out HFIT.out).mono ?_; rintro e w2 ⟨rfl,hb2⟩; rw [HFZ.out]; replace k1:=k1.call hb2; replace k2:=k2.call hb2; replace HB1:=HB1.trans (hb2.mono HB1.size); clear hb2; obtain ⟨a0,a1,a2,a3,af,az⟩:=k1.four) | ((with_reducible (show wpList _ _ _ (⟨none,.store 91 (.tmp 8) _,_,_,_,_⟩ :: _) _ _)); rw [← zarr0]; refine wpList_store_row rfl 91 (.tmp 8) (.tmp 23) rfl w2.heap.size _ rfl rfl 91 _ (Bx.new w2 91 (zarr fun _ => (0,0))) (by rw [zarr_size]; kernel_rfl) (by rw [zarr_size,zarr_size]) (zarr_one _) ?_; replace k1:=(k1.alloc (.cells (zarr fun _ => (0,0)) 91)).rowfar (g':=w2.heap.size) (cs':=zarr f) (by have:=k1.lt; omega); replace k2:=(k2.alloc (.cells (zarr fun _ => (0,0)) 91)).rowfar (g':=w2.heap.size) (cs':=zarr f) (by have:=k2.lt; omega); have k8:=(Bx.new w2 91 (zarr fun _ => (0,0))).row (cs':=zarr f); replace HB1:=(HB1.alloc HB1.size (.cells (zarr fun _ => (0,0)) 91)).setRow (g:=w2.heap.size) HB1.size (zarr f); generalize World.setRow _ _ _ = w3 at *))
 have hgb3:=HB1.size
 have k10:=Bx.new w3 119 #[.int .i64 0,.int .i64 1073741824]
 replace k1:=k1.alloc (.cells #[.int .i64 0,.int .i64 1073741824] 119)
 replace k2:=k2.alloc (.cells #[.int .i64 0,.int .i64 1073741824] 119)
 replace k8:=k8.alloc (.cells #[.int .i64 0,.int .i64 1073741824] 119)
 replace HB1:=HB1.alloc HB1.size (.cells #[.int .i64 0,.int .i64 1073741824] 119)
 obtain ⟨gB,hgB⟩ : ∃ gB,w3.heap.size = gB:=⟨_,rfl⟩
 have HGB : Hid (w.heap.size ≤ gB):=Lib.hid (by rw [← hgB]; exact hgb3)
 obtain ⟨w4,hw4⟩ : ∃ w4,w3.alloc (.cells #[.int .i64 0,.int .i64 1073741824] 119) = w4:=⟨_,rfl⟩
 rw [hw4] at k10 k1 k2 k8 HB1 ⊢
 rw [hgB] at k10 ⊢
 clear hw4 hgB
 have hbw : w.heap.size ≤ w4.heap.size:=HB1.size
 obtain ⟨a0,a1,a2,a3,af,az⟩:=k1.four
 obtain ⟨s0,s1,s2,s3,s4,s5,sf,sz⟩:=k2.six
 refine AnyG.start (fun w' : World => Below w4.heap.size w4 w') (fun i => true) (by kernel_rfl) ?_
 have hS : (fun w' : World => Below w4.heap.size w4 w') (World.drew _):=(Below.refl _ _).drew
 refine AnyG.take (i:=0) (v:=?_) rfl (by kernel_rfl) (fun _ _ _ h => h) rfl ?_ hS ?_
 rotate_left
 ·(intro w' hSw; (try dsimp only at hSw); have a0:=cellC hSw a0; have a1:=cellC hSw a1; have a2:=cellC hSw a2; have a3:=cellC hSw a3; go_simp; try with_reducible rfl)
 try simp only [Act.put,Sp4,Sp5,Sp6]
 refine AnyG.take (i:=1) (v:=?_) rfl (by kernel_rfl) (fun _ _ _ h => h) rfl ?_ hS ?_
 rotate_left
 ·(intro w' hSw; (try dsimp only at hSw); refine run_load_bx 91 (.tmp 8) ?_ w2.heap.size ?_ 91 (zarr f) _ (k8.call hSw) Try.underlying91 rfl (by rw [zarr_size]; kernel_rfl) <;> rfl)
 try simp only [Act.put,Sp4,Sp5,Sp6]
 refine AnyG.take (i:=2) (v:=?_) rfl (by kernel_rfl) (fun _ _ _ h => h) rfl ?_ hS ?_
 rotate_left
 ·(intro w' hSw; (try dsimp only at hSw); have a0:=cellC hSw a0; have a1:=cellC hSw a1; have a2:=cellC hSw a2; have a3:=cellC hSw a3; go_simp; try with_reducible rfl)
 try simp only [Act.put,Sp4,Sp5,Sp6]
 refine AnyG.take (i:=3) (v:=?_) rfl (by kernel_rfl) (fun _ _ _ h => h) rfl ?_ hS ?_
 rotate_left
 ·(intro w' hSw; (try dsimp only at hSw); have s0:=cellC hSw s0; have s1:=cellC hSw s1; have s2:=cellC hSw s2; have s3:=cellC hSw s3; have s4:=cellC hSw s4; have s5:=cellC hSw s5; go_simp; try with_reducible rfl)
 try simp only [Act.put,Sp4,Sp5,Sp6]
 refine RegRel.AnyG.rel [0,1,2,3] [] [[],[],[],[],[],[4],[4,5],[]] [(33,4),(34,5),(35,6),(36,7)] [(4,fun vs w1 => ∃ gl gm m,vs 4 = .func (.func 97) #[] #[.pointer (some ⟨gl,0,none⟩),.pointer (some ⟨gm,0,none⟩)] ∧ Bx w1 gl 26 #[.int .i64 st,.int .i64 z0,.int .i64 z1,.slice A n c] ∧ Bx w1 gm 113 #[.map (some m)] ∧ w1.ownsMap Try.prog 3 (plainElem Try.prog 3) m 8 (wmap F B)),(5,fun vs w1 => ∃ g,vs 5 = .slice (some ⟨g,0,none⟩) n n ∧ w4.heap.size ≤ g ∧ Bx w1 g 3 (iarr n L)),(6,fun vs _ => vs 6 = .int .i64 n),(7,fun vs _ => vs 7 = .int .i64 0)]
  (by kernel_rfl) (by kernel_rfl) (by kernel_rfl) (by decide) (by decide) (fun _ h => Below.trans ((Below.refl w4.heap.size w4).drew) h) ?hst ?hcg ?hstep ?hfin
 case hst => exact ⟨fun _ _ _ ⟨gl,gm,m,h1,h2,h3,h4⟩ hb => ⟨gl,gm,m,h1,h2.call hb,h3.call hb,ownsMap_below h4 hb h4.lt⟩,fun _ _ _ ⟨g,h1,h2,h3⟩ hb => ⟨g,h1,h2,h3.call hb⟩,fun _ _ _ h _ => h,fun _ _ _ h _ => h,trivial⟩
 case hcg => exact ⟨fun _ _ _ he ⟨gl,gm,m,h1,h2⟩ => ⟨gl,gm,m,(he 4 (by simp)).trans h1,h2⟩,fun _ _ _ he ⟨g,h1,h2⟩ => ⟨g,(he 5 (by simp)).trans h1,h2⟩,fun _ _ _ he h => (he 6 (by simp)).trans h,fun _ _ _ he h => (he 7 (by simp)).trans h,trivial⟩
 case hstep =>
  refine ⟨?_,?_,?_,?_,trivial⟩
  ·rintro vs v1 - hv
   refine ⟨_,_,rfl,rfl,?_⟩
   clear hS
   simp only [RegRel.fillT,List.foldl_cons,List.foldl_nil,Sp4,Sp5,Sp6]
   have hBv : Below w.heap.size w v1:=HB1.trans ((((Below.refl w4.heap.size w4).drew).trans hv).mono hbw)
   go_simp
   refine (weigher_any st z0 z1 A n c FA fn fc BA bn bc fs bs d0 d1 F B _ HF.out HBn.out hfn4 hbn4 ((hF.below hBv).more hBv.size) ((hBs.below hBv).more hBv.size) HF1.out HB1'.out).mono ?_
   rintro rr v2 ⟨⟨gl,gm,m,rfl,_,_,q1,q2,q3⟩,hb2⟩
   exact ⟨⟨gl,gm,rfl,q1,m,q2,q3⟩,hb2⟩
  ·rintro vs v1 ⟨⟨gl,gm,m,h4,hk1,hk2,hown⟩,-⟩ hv
   refine ⟨_,_,rfl,rfl,?_⟩
   clear hS
   try dsimp only at h4
   simp only [RegRel.fillT,List.foldl_cons,List.foldl_nil,Sp4,Sp5,Sp6]
   simp only [h4]
   clear h4
   have hBv : Below w.heap.size w v1:=HB1.trans ((((Below.refl w4.heap.size w4).drew).trans hv).mono hbw)
   go_simp
   have hn14 : n ≤ 14:=by rw [← HL.out]; exact hlog.n
   have hT1:=Tbe_bd (wtc st es F B) (folc es f) f n (wtc_bd hlog F B) HFB.out (n - 1) (by omega)
   refine (widths_any (.int .i64 st) (.int .i64 z0) (.int .i64 z1) _ A n c f (Tbe (wtc st es F B) (folc es f) f (n - 1)) (Tab (wtc st es F B) (folc es f) f n n) v1 hn1 hn14 HFB.out (fun i => (hT1 i).mono (by omega)) (fun i => (Tab_bd (wtc st es F B) (folc es f) f n (wtc_bd hlog F B) n i).mono (by omega)) (fun W hW => w103_at st z0 z1 A n c es F B f gl gm m v1 hlog HL.out hn1 HFB.out ((hA.below hBv).more hBv.size) hk1 hk2 hown W hW) (fun W hW => w92_at st z0 z1 A n c es F B f gl gm m v1 hlog HL.out hn1 HFB.out ((hA.below hBv).more hBv.size) hk1 hk2 hown W hW)).mono ?_
   rintro rr v2 ⟨⟨tb,rfl,htb,hbx⟩,hb2⟩
   rw [HLL.out] at hbx
   have hva : w4.heap.size ≤ v1.heap.size:=hv.size
   first | exact ⟨⟨tb,rfl,by omega,hbx⟩,hb2,rfl⟩ | exact ⟨⟨tb,rfl,by omega,hbx⟩,hb2⟩ | trace_state
  ·rintro vs v1 ⟨⟨gl,gm,m,h4,hk1,hk2,hown⟩,⟨g5,h5,hg5,hx5⟩,-⟩ hv
   refine ⟨_,_,rfl,rfl,?_⟩
   clear hS
   try dsimp only at h4 h5
   simp only [RegRel.fillT,List.foldl_cons,List.foldl_nil,Sp4,Sp5,Sp6]
   simp only [h5]
   clear h4 h5
   go_simp
   first | exact ⟨rfl,Below.refl _ _,rfl,fun h => absurd h (by decide)⟩ | exact ⟨rfl,Below.refl _ _,fun h => absurd h (by decide)⟩ | exact ⟨rfl,Below.refl _ _,rfl⟩ | exact ⟨rfl,Below.refl _ _⟩ | exact Below.refl _ _ | trace_state
  ·rintro vs v1 - hv
   refine ⟨_,_,rfl,rfl,?_⟩
   clear hS
   simp only [RegRel.fillT,List.foldl_cons,List.foldl_nil,Sp4,Sp5,Sp6]
   go_simp
   first | exact ⟨rfl,Below.refl _ _,rfl,fun h => absurd h (by decide)⟩ | exact ⟨rfl,Below.refl _ _,fun h => absurd h (by decide)⟩ | exact ⟨rfl,Below.refl _ _,rfl⟩ | exact ⟨rfl,Below.refl _ _⟩ | exact Below.refl _ _ | trace_state
 case hfin =>
  rintro vs v1 ⟨⟨gl,gm,m,h4,hk1,hk2,hown⟩,⟨g5,h5,hg5,hx5⟩,h6,h7,-⟩ hv
  clear hS
  try dsimp only at h4 h5 h6 h7
  simp only [List.filter_cons,List.contains_cons,List.contains_nil,Nat.reduceBEq,Bool.or_false,Bool.not_false,if_true,List.filter_nil]
  simp only [RegRel.fillT,List.foldl_cons,List.foldl_nil,Sp4,Sp5,Sp6]
  simp only [h4,h5,h6,h7]
  clear h4 h5 h6 h7
  have hvW : Below w4.heap.size w4 v1:=((Below.refl w4.heap.size w4).drew).trans hv
  refine RegRel.wpOps_end ?_
  go_simp
  have c10:=k10.call hvW
  have c2:=k2.call hvW
  have HB9 : Below w.heap.size w v1:=HB1.trans (hvW.mono hbw)
  have hnl : n ≤ 14:=by rw [← HL.out]; exact hlog.n
  go_wp2_with fail
  go_loopw [36] (fun i wr => ∃ (j : Nat) (a b : Int),j ≤ n ∧ i = .int .i64 j ∧ Hid (bst L D j = (a,b)) ∧ Bx wr gB 119 #[.int .i64 a,.int .i64 b] ∧ Bx wr g5 3 (iarr n L) ∧ Bx wr (w.heap.size + 1) 50 #[.slice FA fn fc,.slice BA bn bc,.int .i64 fs,.int .i64 bs,.int .i64 d0,.int .i64 d1] ∧ Below w.heap.size w wr) (fun i _ => n - (intOf i).toNat)
  case atStart => exact ⟨0,0,1073741824,by omega,rfl,Lib.hid rfl,c10,hx5,c2,HB9⟩
  case round =>
   clear c10 c2 HB9 hx5
   obtain ⟨j,a,b,hj,rfl,hab,c10,c5,c2,HBe⟩:=hrel
   by_cases hjn : j < n
   ·have c5j:=(c5.cell j).trans (iarr_get n L hjn)
    have c5f:=c5.free
    have c5z:=c5.lt
    have hLj:=HLB.out j
    obtain ⟨s0,s1,s2,s3,s4,s5,sf,sz⟩:=c2.six
    obtain ⟨r0,r1,rf,rz⟩:=c10.two
    obtain ⟨y,hy⟩ : ∃ y,L j = y:=⟨_,rfl⟩
    rw [hy] at c5j hLj
    have HY:=Lib.hid hy
    clear hy
    go_wp2_with (first | (go_at_call 71; refine (driverShare_any FA fn fc BA bn bc fs bs d0 d1 _ hs1 hs2 hs3 hs4 e1 e2 e3 e4).mono ?_; rintro e x1 ⟨rfl,hq1⟩; replace c10:=c10.call hq1; replace c5:=c5.call hq1; replace c2:=c2.call hq1; replace HBe:=HBe.trans (hq1.mono HBe.size); clear r0 r1 rf rz; obtain ⟨r0,r1,rf,rz⟩:=c10.two) | (go_at_call 83; refine (spread_any _ _ _ (by omega) (by omega) (by omega) (by omega)).mono ?_; rintro e x2 ⟨rfl,hq2⟩; replace c10:=c10.call hq2; replace c5:=c5.call hq2; replace c2:=c2.call hq2; replace HBe:=HBe.trans (hq2.mono HBe.size); clear r0 r1 rf rz; obtain ⟨r0,r1,rf,rz⟩:=c10.two; rw [HD.out]; have hDb : -200000000000 ≤ D ∧ D ≤ 200000000000:=by rw [← HD.out]; omega) | (go_at_call 84; replace HBe:=HBe.alloc HBe.size (.cells #[.int .i64 (j : Int),.int .i64 (y + D)] 119); replace c10:=c10.alloc (.cells #[.int .i64 (j : Int),.int .i64 (y + D)] 119); replace c5:=c5.alloc (.cells #[.int .i64 (j : Int),.int .i64 (y + D)] 119); replace c2:=c2.alloc (.cells #[.int .i64 (j : Int),.int .i64 (y + D)] 119); refine (better_any _ _ _ _ _).mono ?_; rintro e x3 ⟨rfl,hq3⟩; replace c10:=c10.call hq3; replace c5:=c5.call hq3; replace c2:=c2.call hq3; replace HBe:=HBe.trans (hq3.mono HBe.size); rw [better_bst hab.out HY.out]; clear r0 r1 rf rz; obtain ⟨r0,r1,rf,rz⟩:=c10.two) | fail)
    have n5:=c10.ne c5 (by decide)
    have n2:=c10.ne c2 (by decide)
    have hgBw : w.heap.size ≤ gB:=HGB.out
    go_roundw
    case rel => exact ⟨j + 1,(bst L D (j + 1)).1,(bst L D (j + 1)).2,by omega,by go_num,Lib.hid rfl,by simpa using (c10.set_ 0 (.int .i64 (bst L D (j + 1)).1)).set_ 1 (.int .i64 (bst L D (j + 1)).2),(c5.far (by simp; omega) _).far (by simp; omega) _,(c2.far (by simp; omega) _).far (by simp; omega) _,(HBe.setCell (by simp; omega) _).setCell (by simp; omega) _⟩
    case measure => simp [intOf]; omega
   ·obtain rfl : j = n:=by omega
    obtain ⟨r0,r1,rf,rz⟩:=c10.two
    go_wp2_with fail
    refine AnyG.start (fun w' : World => Below wr.heap.size wr w') (fun i => true) (by kernel_rfl) ?_
    have hS : (fun w' : World => Below wr.heap.size wr w') (World.drew _):=(Below.refl _ _).drew
    refine AnyG.take (i:=0) (v:=?_) rfl (by kernel_rfl) (fun _ _ _ h => h) rfl ?_ hS ?_
    rotate_left
    ·(intro w' _; go_simp; try with_reducible rfl)
    try simp only [Act.put,Sp4,Sp5,Sp6]
    refine AnyG.take (i:=1) (v:=?_) rfl (by kernel_rfl) (fun _ _ _ h => h) rfl ?_ hS ?_
    rotate_left
    ·(intro w' hSw; (try dsimp only at hSw); have r0:=cellC hSw r0; have r1:=cellC hSw r1; go_simp; try with_reducible rfl)
    try simp only [Act.put,Sp4,Sp5,Sp6]
    refine AnyG.take (i:=4) (v:=?_) rfl (by kernel_rfl) (fun _ _ _ h => h) rfl ?_ hS ?_
    rotate_left
    ·(intro w' _; go_simp; try with_reducible rfl)
    try simp only [Act.put,Sp4,Sp5,Sp6]
    refine AnyG.take (i:=2) (v:=?_) rfl (by kernel_rfl) (fun _ _ _ h => h) rfl ?_ hS ?_
    rotate_left
    ·(intro w' _; go_simp; try with_reducible rfl)
    try simp only [Act.put,Sp4,Sp5,Sp6]
    refine AnyG.take (i:=3) (v:=?_) rfl (by kernel_rfl) (fun _ _ _ h => h) rfl ?_ hS ?_
    rotate_left
    ·(intro w' hSw; (try dsimp only at hSw); have r0:=cellC hSw r0; have r1:=cellC hSw r1; go_simp; try with_reducible rfl)
    try simp only [Act.put,Sp4,Sp5,Sp6]
    refine AnyG.take (i:=5) (v:=?_) rfl (by kernel_rfl) (fun _ _ _ h => h) rfl ?_ hS ?_
    rotate_left
    ·(intro w' _; go_simp; try with_reducible rfl)
    try simp only [Act.put,Sp4,Sp5,Sp6]
    refine AnyG.take (i:=6) (v:=?_) rfl (by kernel_rfl) (fun _ _ _ h => h) rfl ?_ hS ?_
    rotate_left
    ·(intro w' _; go_simp; try with_reducible rfl)
    try simp only [Act.put,Sp4,Sp5,Sp6]
    refine AnyG.done (by kernel_rfl) ?_ _
    go_simp
    go_wp2_with fail
    have hfa:=congrArg Prod.fst hab.out
    have hfb:=congrArg Prod.snd hab.out
    dsimp only at hfa hfb
    rw [hfa,hfb]
    refine bodyPost_ret (v:=.tuple #[.int .i64 a,.int .i64 b,.int .i64 0]) (by simp [results,Try.results38,go_sem]) rfl ⟨rfl,HBe.drew⟩
theorem widest_bd {T1 T2 : Nat → Int × Int} (h1 : RowBd 2000000000 T1) (h2 : RowBd 2000000000 T2) (e : Nat) : ∀ zs,0 ≤ widest T1 T2 e zs ∧ widest T1 T2 e zs ≤ 10000000000:=by
 refine snoc_ind ⟨by simp [widest],by simp [widest]⟩ fun zs z ih => ?_
 rw [widest_snoc]
 have p1:=h1 (ix e z)
 have p2:=h2 (ix e z)
 unfold Bd at p1 p2
 unfold wideOf
 omega
theorem Lw_bd {T1 T2 : Nat → Int × Int} (h1 : RowBd 2000000000 T1) (h2 : RowBd 2000000000 T2) (f : Nat → Int × Int) (n k : Nat) : 0 ≤ Lw T1 T2 f n k ∧ Lw T1 T2 f n k ≤ 10000000000:=by
 unfold Lw
 split
 ·exact widest_bd h1 h2 k _
 ·omega
/-- How wide the net weight is at most, if the zero of an event is known. -/
def wideL (st : Int) (es : List Ev) (F B : List Int) (f : Nat → Int × Int) (n : Nat) : Nat → Int:=Lw (Tbe (wtc st es F B) (folc es f) f (n - 1)) (Tab (wtc st es F B) (folc es f) f n n) f n
/-- Best, for a good slip of a log with zeros. -/
theorem best_ok (st z0 z1 : Int) (A : Option Addr) (n c : Nat) (es : List Ev) (FA : Option Addr) (fn fc : Nat) (BA : Option Addr) (bn bc : Nat) (fs bs d0 d1 : Int) (F B : List Int) (w : World) (hn : n ≤ 9223372036854775807) (hl : es.length = n) (hA : EvsAt w w.heap.size A es) (hfn : fn ≤ 9223372036854775807) (hbn : bn ≤ 9223372036854775807) (hf : F.length = fn) (hb : B.length = bn) (hF : Sl w w.heap.size 1 FA (ints F)) (hBs : Sl w w.heap.size 1 BA (ints B)) (hck : ckS st z0 z1 es F B fs bs d0 d1 = 0) (hfit : Fits st z0 z1 es n) :
  Calls Try.prog 38 #[.agg #[.int .i64 st,.int .i64 z0,.int .i64 z1,.slice A n c],.agg #[.slice FA fn fc,.slice BA bn bc,.int .i64 fs,.int .i64 bs,.int .i64 d0,.int .i64 d1]] w fun e w' => e = .returned (.tuple #[.int .i64 (bst (wideL st es F B (zst st z0 z1 es 0) n) (dsHi fs bs d0 d1 - dsLo fs bs d0 d1) n).1,.int .i64 (bst (wideL st es F B (zst st z0 z1 es 0) n) (dsHi fs bs d0 d1 - dsLo fs bs d0 d1) n).2,.int .i64 0]) ∧ Below w.heap.size w w':=by
 obtain ⟨hckl,hcf,hcb,_,hs1,hs2,e1,e2,e3⟩:=ckS_zero hck
 have hlog:=ckL_zero hckl
 obtain ⟨p1,p2,p3⟩:=ckA_rows hcf
 obtain ⟨q1,q2,q3⟩:=ckA_rows hcb
 have hn14 : n ≤ 14:=by rw [← hl]; exact hlog.n
 have hn1 : 1 ≤ n:=by
  have:=p3 (F[0]'(by omega)) (List.getElem_mem _)
  omega
 have hfit' : Fits st z0 z1 es es.length:=by rw [hl]; exact hfit
 have hfb : ∀ i,i < n → -200 ≤ (zst st z0 z1 es 0 i).1 ∧ (zst st z0 z1 es 0 i).1 ≤ 200 ∧ -200 ≤ (zst st z0 z1 es 0 i).2 ∧ (zst st z0 z1 es 0 i).2 ≤ 200:=fun i hi => by
  have:=zst_good hlog hfit' i (by omega)
  omega
 have hT1:=Tbe_bd (wtc st es F B) (folc es (zst st z0 z1 es 0)) (zst st z0 z1 es 0) n (wtc_bd hlog F B) hfb (n - 1) (by omega)
 refine best_good st z0 z1 A n c es FA fn fc BA bn bc fs bs d0 d1 F B w hn hl hA hfn hbn hf hb hF hBs (zst st z0 z1 es 0) hck hlog hckl hfit hn1 rfl hfb (by omega) (by omega) (fun x hx => ?_) (fun x hx => ?_) _ rfl (fun k => ?_) hs1.1 hs1.2 hs2.1 hs2.2 e1 (by omega) (by omega) e3
 ·have:=p3 x hx
  omega
 ·have:=q3 x hx
  omega
 ·exact Lw_bd (fun i => (hT1 i).mono (by omega)) (fun i => (Tab_bd (wtc st es F B) (folc es (zst st z0 z1 es 0)) (zst st z0 z1 es 0) n (wtc_bd hlog F B) n i).mono (by omega)) _ _ _
end Go.Proofs.Ytgbogdckmfencaa
