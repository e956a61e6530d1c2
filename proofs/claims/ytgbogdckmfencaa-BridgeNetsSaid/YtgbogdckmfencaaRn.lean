/- The reference's net and Net; Paid of both. -/
import Derived.Test.YtgbogdckmfencaaSx
import Derived.Test.YtgbogdckmfencaaZbM
import Derived.Test.YtgbogdckmfencaaSqM
import Derived.Test.YtgbogdckmfencaaMa
set_option linter.unusedSimpArgs false
set_option linter.unusedVariables false
namespace Go.Proofs.Ytgbogdckmfencaa
open Go Go.RowKit
theorem Grid.zero {w : World} {b : Nat} {FA : Option Addr} {n : Nat} {q : Nat → Nat} {f : Nat → Nat → Bool} (h : Grid w b FA n q f) : Grid w 0 FA n q f:=by
 refine ⟨fun h0 => ?_,fun i hi => ⟨Nat.zero_le _,(h.rows i hi).2⟩,h.inj⟩
 obtain ⟨o,cur,a,_,c⟩:=h.out h0
 exact ⟨o,cur,a,Nat.zero_le _,c⟩
theorem smA_bd {z0 z1 : Int} {es : List Ev} {K : Nat → Int → Bool} {wt : Nat → Int → Int × Int} (hw : ∀ i z,Bd 100000 (wt i z)) {n : Nat} (hn : n ≤ 14) (h1 : 1 ≤ n) : Bd 1400000 (smA z0 z1 es K wt n) :=
 cov1_bd (by omega) fun x hx => by
  obtain ⟨y,_,rfl⟩:=List.mem_map.1 hx
  exact (smD_bd hw (n - 1) y).mono (by omega)
set_option maxRecDepth 100000 in
set_option maxHeartbeats 8000000 in
theorem refnet_any (st z0 z1 : Int) (A : Option Addr) (n c : Nat) (es : List Ev) (FA : Option Addr) (fn fc : Nat) (BA : Option Addr) (bn bc : Nat) (fs bs d0 d1 : Int) (F B : List Int) (gv zr A1 A2 D1 D2 : Int) (is : Bool) (w : World) (hn : n ≤ 9223372036854775807) (hl : es.length = n) (hA : EvsAt w w.heap.size A es) (hfn : fn ≤ 1000) (hbn : bn ≤ 1000) (hf : F.length = fn) (hb : B.length = bn) (hF : Sl w w.heap.size 1 FA (ints F)) (hBs : Sl w w.heap.size 1 BA (ints B)) (hck : ckS st z0 z1 es F B fs bs d0 d1 = 0) (hg1 : -1 ≤ gv) (hg2 : gv ≤ 100) (hzr1 : -1000 ≤ zr) (hzr2 : zr ≤ 1000)
  (his : smF st z0 z1 es gv zr n = is) (hsm : smA z0 z1 es (knB st z0 z1 es gv zr n) (wtc st es F B) n = (A1,A2)) (hD1 : dsLo fs bs d0 d1 = D1) (hD2 : dsHi fs bs d0 d1 = D2) :
  Calls Try.prog 72 #[.agg #[.int .i64 st,.int .i64 z0,.int .i64 z1,.slice A n c],.agg #[.slice FA fn fc,.slice BA bn bc,.int .i64 fs,.int .i64 bs,.int .i64 d0,.int .i64 d1],.int .i64 gv,.int .i64 zr] w fun r w' => r = .returned (.tuple #[.agg #[.int .i64 (if is = true then A1 + D1 else 0),.int .i64 (if is = true then A2 + D2 else 0)],.bool is]) ∧ Below w.heap.size w w':=by
 obtain ⟨hckl,hcf,hcb,hov,hs1,hs2,e1,e2,e3⟩:=ckS_zero hck
 have hlog:=ckL_zero hckl
 have hn14 : n ≤ 14:=by rw [← hl]; exact hlog.n
 obtain ⟨p1,p2,p3⟩:=ckA_rows hcf
 have hn1 : 1 ≤ n:=by
  have hm:=List.getElem_mem (show 0 < F.length by omega)
  have:=p3 _ hm
  omega
 have hAb:=smA_bd (z0:=z0) (z1:=z1) (es:=es) (K:=knB st z0 z1 es gv zr n) (wtc_bd hlog F B) hn14 hn1
 rw [hsm] at hAb
 have hDb:=ds_small (fs:=fs) (bs:=bs) e1 (show d0 ≤ 200 by omega) (show 0 ≤ d1 by omega) e3
 rw [hD1,hD2] at hDb
 unfold Bd at hAb hDb
 dsimp only at hAb hDb
 have HL:=Lib.hid hl
 have HF:=Lib.hid hf
 have HBn:=Lib.hid hb
 have HOV:=Lib.hid hov
 have HLOG:=Lib.hid hlog
 have HIS:=Lib.hid his
 have HSM:=Lib.hid hsm
 have HD:=Lib.hid (And.intro hD1 hD2)
 clear hckl hcf hcb hov hlog p1 p2 p3 hl hf hb his hsm hD1 hD2 hck
 have I:=(LS.start (st:=st) (z0:=z0) (z1:=z1) (n:=n) (c:=c) (fn:=fn) (fc:=fc) (bn:=bn) (bc:=bc) (fs:=fs) (bs:=bs) (d0:=d0) (d1:=d1) hA hF hBs).al (.cells #[.int .i64 0,.int .i64 0] 23)
 have k8:=Bx.at ((w.alloc (.cells #[.int .i64 st,.int .i64 z0,.int .i64 z1,.slice A n c] 26)).alloc (.cells #[.slice FA fn fc,.slice BA bn bc,.int .i64 fs,.int .i64 bs,.int .i64 d0,.int .i64 d1] 50)) 23 #[.int .i64 0,.int .i64 0] (n:=w.heap.size + 1 + 1) (by simp)
 obtain ⟨W,hW⟩ : ∃ x,((w.alloc (.cells #[.int .i64 st,.int .i64 z0,.int .i64 z1,.slice A n c] 26)).alloc (.cells #[.slice FA fn fc,.slice BA bn bc,.int .i64 fs,.int .i64 bs,.int .i64 d0,.int .i64 d1] 50)).alloc (.cells #[.int .i64 0,.int .i64 0] 23) = x:=⟨_,rfl⟩
 rw [hW] at I k8
 have HW:=Lib.hid hW
 clear hW hA hF hBs
 obtain ⟨a0,a1,a2,a3,af,az⟩:=I.k1.four
 go_enter Try.func72,Try.ntmps72
 go_upto_region 1 with fail
 rw [HW.out]
 go_upto_region 2 with (first | (go_at_call 59; refine (learn_fwd st z0 z1 A n c es gv zr n _ HL.out HLOG.out (Nat.le_refl _) hg1 hg2 hzr1 hzr2 I.ev).mono ?_; rintro r w1 ⟨⟨KA,KC,qk,rfl,hG⟩,hq⟩; rw [HIS.out]) | fail)
 clear a0 a1 a2 a3 af az
 have I2:=(I.bel hq).al (.cells #[.slice KA n KC] 96)
 have k82:=(k8.call hq).alloc (.cells #[.slice KA n KC] 96)
 have k10:=Bx.new w1 96 #[.slice KA n KC]
 have hG2:=(Grid.zero hG).alloc (.cells #[.slice KA n KC] 96)
 have h10 : w.heap.size + 1 + 1 < w1.heap.size:=(k8.call hq).lt
 obtain ⟨V,hV⟩ : ∃ x,w1.alloc (.cells #[.slice KA n KC] 96) = x:=⟨_,rfl⟩
 obtain ⟨b10,hb10⟩ : ∃ b,w1.heap.size = b:=⟨_,rfl⟩
 rw [hV] at I2 k82 k10 hG2 ⊢
 rw [hb10] at k10 h10 ⊢
 clear hV hb10 hq I k8 hG
 have hend : ∀ (X : World),Below V.heap.size V X → ∀ a b : Int,((X.setCell ⟨w.heap.size + 1 + 1,0,none⟩ (.int .i64 a)).setCell ⟨w.heap.size + 1 + 1,1,none⟩ (.int .i64 b)).cell? ⟨w.heap.size + 1 + 1,0,none⟩ = some (.int .i64 a) ∧ ((X.setCell ⟨w.heap.size + 1 + 1,0,none⟩ (.int .i64 a)).setCell ⟨w.heap.size + 1 + 1,1,none⟩ (.int .i64 b)).cell? ⟨w.heap.size + 1 + 1,1,none⟩ = some (.int .i64 b) ∧ Below w.heap.size w ((X.setCell ⟨w.heap.size + 1 + 1,0,none⟩ (.int .i64 a)).setCell ⟨w.heap.size + 1 + 1,1,none⟩ (.int .i64 b)):=by
  intro X hX a b
  have kz : Bx ((X.setCell ⟨w.heap.size + 1 + 1,0,none⟩ (.int .i64 a)).setCell ⟨w.heap.size + 1 + 1,1,none⟩ (.int .i64 b)) (w.heap.size + 1 + 1) 23 #[.int .i64 a,.int .i64 b]:=by have:=((k82.call hX).set_ 0 (.int .i64 a)).set_ 1 (.int .i64 b); simpa using this
  obtain ⟨e0,e1,_,_⟩:=kz.two
  exact ⟨e0,e1,((I2.bel hX).hb.setCell (p:=⟨w.heap.size + 1 + 1,0,none⟩) (by simp; omega) _).setCell (p:=⟨w.heap.size + 1 + 1,1,none⟩) (by simp; omega) _⟩
 have HEND:=Lib.hid hend
 clear hend
 cases is
 ·obtain ⟨r0,r1,rf,rz⟩:=k82.two
  go_wp2_with fail
  obtain ⟨e0,e1,eB⟩:=HEND.out V (Below.refl _ _) 0 0
  refine bodyPost_ret (v:=.tuple #[.agg #[.int .i64 0,.int .i64 0],.bool false]) (by simp [results,Try.results72,go_sem,e0,e1]) rfl ⟨rfl,eB⟩
 ·go_upto_region 4 with fail
  go_cut [12,13] (fun v12 v13 wr => ∃ p q : Nat,v12 = .pointer (some ⟨p,0,none⟩) ∧ v13 = .pointer (some ⟨q,0,none⟩) ∧ Bx wr p 23 #[.int .i64 A1,.int .i64 A2] ∧ Bx wr q 23 #[.int .i64 D1,.int .i64 D2] ∧ Below V.heap.size V wr)
  case first =>
   refine AnyG.start (fun w' : World => Below V.heap.size V w') (fun i => i != 8 && i != 9) (by kernel_rfl) ?_
   have hS : (fun w' : World => Below V.heap.size V w') (World.drew _):=(Below.refl _ _).drew
   refine AnyG.takeC (i:=0) (v:=?_) rfl (by kernel_rfl) (fun _ _ _ h => h) rfl ?_ hS ?_
   rotate_left
   ·(intro w' hSw; (try dsimp only at hSw); obtain ⟨l0,l1,l2,l3,lf,lz⟩:=(I2.k1.call hSw).four; go_simp; try with_reducible rfl)
   try simp only [Act.put,Sp4,Sp5,Sp6]
   refine AnyG.takeC (i:=1) (v:=?_) rfl (by kernel_rfl) (fun _ _ _ h => h) rfl ?_ hS ?_
   rotate_left
   ·(intro w' hSw; (try dsimp only at hSw); obtain ⟨s0,s1,s2,s3,s4,s5,sf,sz⟩:=(I2.k2.call hSw).six; go_simp; try with_reducible rfl)
   try simp only [Act.put,Sp4,Sp5,Sp6]
   refine AnyG.takeC (i:=2) (v:=?_) rfl (by kernel_rfl) (fun _ _ _ h => h) rfl ?_ hS ?_
   rotate_left
   ·(intro w' hSw; (try dsimp only at hSw); obtain ⟨a0,af,az⟩:=(k10.call hSw).one; go_simp; try with_reducible rfl)
   try simp only [Act.put,Sp4,Sp5,Sp6]
   refine AnyG.takeC (i:=4) (v:=?_) rfl (by kernel_rfl) (fun _ _ _ h => h) rfl ?_ hS ?_
   rotate_left
   ·(intro w' hSw; (try dsimp only at hSw); obtain ⟨s0,s1,s2,s3,s4,s5,sf,sz⟩:=(I2.k2.call hSw).six; go_simp; try with_reducible rfl)
   try simp only [Act.put,Sp4,Sp5,Sp6]
   refine RegRel.AnyG.rel2 [6,7] [0,1,2,4] [8,9] [[],[],[],[],[],[3],[],[],[3,5,6,7],[3,5,6,7,8]] [(30,3),(32,5),(12,6),(13,7)] [(3,fun vs _ => vs 3 = .agg #[.int .i64 A1,.int .i64 A2]),(5,fun vs _ => vs 5 = .agg #[.int .i64 D1,.int .i64 D2]),(6,fun vs w1 => ∃ g,vs 6 = .pointer (some ⟨g,0,none⟩) ∧ V.heap.size ≤ g ∧ Bx w1 g 23 #[.int .i64 0,.int .i64 0]),(7,fun vs w1 => ∃ g,vs 7 = .pointer (some ⟨g,0,none⟩) ∧ V.heap.size ≤ g ∧ Bx w1 g 23 #[.int .i64 0,.int .i64 0])]
    (by kernel_rfl) (by kernel_rfl) (by kernel_rfl) (by kernel_rfl) (by decide) (by decide) (fun _ h => Below.trans ((Below.refl V.heap.size V).drew) h) ?hst ?hcg ?hstep ?hfin
   case hst => exact ⟨fun _ _ _ h _ => h,fun _ _ _ h _ => h,fun _ _ _ ⟨g,h1,h2,h3⟩ hb => ⟨g,h1,h2,h3.call hb⟩,fun _ _ _ ⟨g,h1,h2,h3⟩ hb => ⟨g,h1,h2,h3.call hb⟩,trivial⟩
   case hcg => exact ⟨fun _ _ _ he h => (he 3 (by simp)).trans h,fun _ _ _ he h => (he 5 (by simp)).trans h,fun _ _ _ he ⟨g,h1,h2⟩ => ⟨g,(he 6 (by simp)).trans h1,h2⟩,fun _ _ _ he ⟨g,h1,h2⟩ => ⟨g,(he 7 (by simp)).trans h1,h2⟩,trivial⟩
   case hstep =>
    refine ⟨?_,?_,?_,?_,trivial⟩
    ·rintro vs v1 - hv
     refine ⟨_,_,rfl,rfl,?_⟩
     clear hS
     simp only [RegRel.fillT,List.foldl_cons,List.foldl_nil,Sp4,Sp5,Sp6]
     go_simp
     have hv2 : Below V.heap.size V v1:=((Below.refl V.heap.size V).drew).trans hv
     have I3:=I2.bel hv2
     refine (sums_any st z0 z1 A n c es FA fn fc BA bn bc fs bs d0 d1 F B KA KC qk _ (knB st z0 z1 es gv zr n) (wtc st es F B) _ hn1 HL.out HLOG.out I3.ev hfn hbn HF.out HBn.out I3.sf I3.sb HOV.out (hG2.bel hv2) (fun i z => may_gB st z0 z1 es gv zr n i z) rfl).mono ?_
     rintro rr v2 ⟨rfl,hb2⟩
     rw [HSM.out]
     first | exact ⟨rfl,hb2,rfl,fun h => absurd h (by decide)⟩ | exact ⟨rfl,hb2,fun h => absurd h (by decide)⟩ | exact ⟨rfl,hb2,rfl⟩ | exact ⟨rfl,hb2⟩ | trace_state
    ·rintro vs v1 ⟨h3,-⟩ hv
     refine ⟨_,_,rfl,rfl,?_⟩
     clear hS
     try dsimp only at h3
     simp only [RegRel.fillT,List.foldl_cons,List.foldl_nil,Sp4,Sp5,Sp6]
     clear h3
     go_simp
     refine (refDriver_any FA fn fc BA bn bc fs bs d0 d1 _ hs1.1 hs1.2 hs2.1 hs2.2 e1 (by omega) (by omega) e3).mono ?_
     rintro rr v2 ⟨rfl,hb2⟩
     rw [HD.out.1,HD.out.2]
     first | exact ⟨rfl,hb2,rfl,fun h => absurd h (by decide)⟩ | exact ⟨rfl,hb2,fun h => absurd h (by decide)⟩ | exact ⟨rfl,hb2,rfl⟩ | exact ⟨rfl,hb2⟩ | trace_state
    ·rintro vs v1 - hv
     refine ⟨_,_,rfl,rfl,?_⟩
     clear hS
     simp only [RegRel.fillT,List.foldl_cons,List.foldl_nil,Sp4,Sp5,Sp6]
     go_simp
     have hva : V.heap.size ≤ v1.heap.size:=hv.size
     refine ⟨⟨_,rfl,?_,Bx.new _ _ _⟩,(Below.refl _ _).alloc (Nat.le_refl _) _⟩
     omega
    ·rintro vs v1 - hv
     refine ⟨_,_,rfl,rfl,?_⟩
     clear hS
     simp only [RegRel.fillT,List.foldl_cons,List.foldl_nil,Sp4,Sp5,Sp6]
     go_simp
     have hva : V.heap.size ≤ v1.heap.size:=hv.size
     refine ⟨⟨_,rfl,?_,Bx.new _ _ _⟩,(Below.refl _ _).alloc (Nat.le_refl _) _⟩
     omega
   case hfin =>
    rintro vs v1 ⟨h3,h5,⟨g6,h6,hg6,hx6⟩,⟨g7,h7,hg7,hx7⟩,-⟩ hv hdist
    clear hS
    try dsimp only at h3 h5 h6 h7
    have hne6_7 : g6 ≠ g7:=fun e => hdist 6 (by simp) 7 (by simp) (by decide) (by rw [h6,h7,e])
    clear hdist
    simp only [List.filter_cons,List.contains_cons,List.contains_nil,Nat.reduceBEq,Bool.or_false,Bool.not_false,if_true,List.filter_nil]
    simp only [RegRel.fillT,List.foldl_cons,List.foldl_nil,Sp4,Sp5,Sp6]
    simp only [h3,h5,h6,h7]
    clear h3 h5 h6 h7
    have hvW : Below V.heap.size V v1:=((Below.refl V.heap.size V).drew).trans hv
    obtain ⟨r0,r1,rf,rz⟩:=hx6.two
    obtain ⟨q0,q1,qf,qz⟩:=hx7.two
    refine RegRel.wpOps_go rfl rfl ?_
    go_simp
    refine RegRel.wpOps_go rfl rfl ?_
    go_simp
    refine RegRel.wpOps_end ?_
    go_simp
    clear r0 r1 rf rz q0 q1 qf qz
    go_wp2_with fail
    go_meet
    exact ⟨g6,g7,rfl,rfl,by have:=((((hx6.set_ 0 (.int .i64 A1)).set_ 1 (.int .i64 A2)).far (p:=⟨g7,0,none⟩) hne6_7 (.int .i64 D1)).far (p:=⟨g7,1,none⟩) hne6_7 (.int .i64 D2)); simpa using this,by have:=((((hx7.far (p:=⟨g6,0,none⟩) (Ne.symm hne6_7) (.int .i64 A1)).far (p:=⟨g6,1,none⟩) (Ne.symm hne6_7) (.int .i64 A2)).set_ 0 (.int .i64 D1)).set_ 1 (.int .i64 D2)); simpa using this,(Below.setCell (Below.setCell (Below.setCell (Below.setCell hvW hg6 _) hg6 _) hg7 _) hg7 _)⟩
  case rest =>
   obtain ⟨p,q,rfl,rfl,kp,kq,hBr⟩:=hcut
   obtain ⟨w3,rfl⟩ : ∃ x,x = wc:=⟨_,rfl⟩
   obtain ⟨p0,p1,pf,pz⟩:=kp.two
   obtain ⟨q0,q1,qf,qz⟩:=kq.two
   obtain ⟨r0,r1,rf,rz⟩:=(k82.call hBr).two
   have ha1 : IntKind.i64.wrap (A1 + D1) = A1 + D1:=IntWalk.i64_in _ (by omega)
   have ha2 : IntKind.i64.wrap (A2 + D2) = A2 + D2:=IntWalk.i64_in _ (by omega)
   go_wp2_with fail
   obtain ⟨e0,e1,eB⟩:=HEND.out w3 hBr (A1 + D1) (A2 + D2)
   refine bodyPost_ret (v:=.tuple #[.agg #[.int .i64 (A1 + D1),.int .i64 (A2 + D2)],.bool true]) (by simp [results,Try.results72,go_sem,e0,e1]) rfl ⟨rfl,eB⟩
/-- What is net, in all cases. -/
def NetX (st z0 z1 : Int) (es : List Ev) (F B : List Int) (fs bs d0 d1 R1 R2 E : Int) : Prop :=
 (ckS st z0 z1 es F B fs bs d0 d1 ≠ 0 ∧ R1 = 0 ∧ R2 = 0 ∧ E = ckS st z0 z1 es F B fs bs d0 d1) ∨
 (ckS st z0 z1 es F B fs bs d0 d1 = 0 ∧ (∃ m,Fits st z0 z1 es m ∧ m < es.length) ∧ R1 = 0 ∧ R2 = 0 ∧ E = 9) ∨
 (ckS st z0 z1 es F B fs bs d0 d1 = 0 ∧ Fits st z0 z1 es es.length ∧ R1 = (netOf st es F B (zst st z0 z1 es 0) es.length).1 + dsLo fs bs d0 d1 ∧ R2 = (netOf st es F B (zst st z0 z1 es 0) es.length).2 + dsHi fs bs d0 d1 ∧ E = 0)
theorem NetX.some (st z0 z1 : Int) (es : List Ev) (F B : List Int) (fs bs d0 d1 : Int) : ∃ R1 R2 E,NetX st z0 z1 es F B fs bs d0 d1 R1 R2 E:=by
 by_cases hck : ckS st z0 z1 es F B fs bs d0 d1 = 0
 ·obtain ⟨m,hm⟩:=fits_some st z0 z1 es
  by_cases hml : m < es.length
  ·exact ⟨_,_,_,.inr (.inl ⟨hck,⟨m,hm,hml⟩,rfl,rfl,rfl⟩)⟩
  ·have hme : m = es.length:=by have:=hm.le; omega
   subst hme
   exact ⟨_,_,_,.inr (.inr ⟨hck,hm,rfl,rfl,rfl⟩)⟩
 ·exact ⟨_,_,_,.inl ⟨hck,rfl,rfl,rfl⟩⟩
theorem ckS_n1 {st z0 z1 : Int} {es : List Ev} {F B : List Int} {fs bs d0 d1 : Int} (h : ckS st z0 z1 es F B fs bs d0 d1 = 0) : 1 ≤ es.length:=by
 obtain ⟨_,hcf,_,_,_,_,_,_,_⟩:=ckS_zero h
 obtain ⟨p1,p2,p3⟩:=ckA_rows hcf
 have:=p3 _ (List.getElem_mem (show 0 < F.length by omega))
 omega
theorem NetX.bd {st z0 z1 : Int} {es : List Ev} {F B : List Int} {fs bs d0 d1 R1 R2 E : Int} (h : NetX st z0 z1 es F B fs bs d0 d1 R1 R2 E) : Bd 1500000 (R1,R2):=by
 rcases h with ⟨_,rfl,rfl,_⟩ | ⟨_,_,rfl,rfl,_⟩ | ⟨h,hf,rfl,rfl,_⟩
 ·unfold Bd; simp
 ·unfold Bd; simp
 ·obtain ⟨hckl,hcf,hcb,hov,hs1,hs2,e1,e2,e3⟩:=ckS_zero h
  have hlog:=ckL_zero hckl
  have a:=net_small hlog hf (ckS_n1 h) F B
  have b:=ds_small (fs:=fs) (bs:=bs) e1 (show d0 ≤ 200 by omega) (show 0 ≤ d1 by omega) e3
  unfold Bd at *
  dsimp only at *
  omega
theorem net_x (st z0 z1 : Int) (A : Option Addr) (n c : Nat) (es : List Ev) (FA : Option Addr) (fn fc : Nat) (BA : Option Addr) (bn bc : Nat) (fs bs d0 d1 : Int) (F B : List Int) (R1 R2 E : Int) (w : World) (hn : n ≤ 9223372036854775807) (hl : es.length = n) (hA : EvsAt w w.heap.size A es) (hfn : fn ≤ 1000) (hbn : bn ≤ 1000) (hf : F.length = fn) (hb : B.length = bn) (hF : Sl w w.heap.size 1 FA (ints F)) (hBs : Sl w w.heap.size 1 BA (ints B)) (h : NetX st z0 z1 es F B fs bs d0 d1 R1 R2 E) :
  Calls Try.prog 29 #[.agg #[.int .i64 st,.int .i64 z0,.int .i64 z1,.slice A n c],.agg #[.slice FA fn fc,.slice BA bn bc,.int .i64 fs,.int .i64 bs,.int .i64 d0,.int .i64 d1]] w fun e w' => e = .returned (.tuple #[.agg #[.int .i64 R1,.int .i64 R2],.int .i64 E]) ∧ Below w.heap.size w w':=by
 subst hl
 rcases h with ⟨h,rfl,rfl,rfl⟩ | ⟨h,⟨m,hm,hml⟩,rfl,rfl,rfl⟩ | ⟨h,hfit,rfl,rfl,rfl⟩
 ·exact net_bad st z0 z1 A _ c es FA fn fc BA bn bc fs bs d0 d1 F B w hn rfl hA (by omega) (by omega) hf hb hF hBs h
 ·exact net_none st z0 z1 A _ c es FA fn fc BA bn bc fs bs d0 d1 F B w hn rfl hA (by omega) (by omega) hf hb hF hBs h (ckS_zero h).1 m hm hml
 ·exact net_ok st z0 z1 A _ c es FA fn fc BA bn bc fs bs d0 d1 F B w hn rfl hA (by omega) (by omega) hf hb hF hBs h hfit
set_option maxRecDepth 100000 in
set_option maxHeartbeats 8000000 in
theorem refNet_x (st z0 z1 : Int) (A : Option Addr) (n c : Nat) (es : List Ev) (FA : Option Addr) (fn fc : Nat) (BA : Option Addr) (bn bc : Nat) (fs bs d0 d1 : Int) (F B : List Int) (R1 R2 E : Int) (w : World) (hn : n ≤ 9223372036854775807) (hl : es.length = n) (hA : EvsAt w w.heap.size A es) (hfn : fn ≤ 1000) (hbn : bn ≤ 1000) (hf : F.length = fn) (hb : B.length = bn) (hF : Sl w w.heap.size 1 FA (ints F)) (hBs : Sl w w.heap.size 1 BA (ints B)) (h : NetX st z0 z1 es F B fs bs d0 d1 R1 R2 E) :
  Calls Try.prog 30 #[.agg #[.int .i64 st,.int .i64 z0,.int .i64 z1,.slice A n c],.agg #[.slice FA fn fc,.slice BA bn bc,.int .i64 fs,.int .i64 bs,.int .i64 d0,.int .i64 d1]] w fun e w' => e = .returned (.tuple #[.agg #[.int .i64 R1,.int .i64 R2],.int .i64 E]) ∧ Below w.heap.size w w':=by
 have HL:=Lib.hid hl
 have HF:=Lib.hid hf
 have HBn:=Lib.hid hb
 clear hl hf hb
 have I:=(LS.start (st:=st) (z0:=z0) (z1:=z1) (n:=n) (c:=c) (fn:=fn) (fc:=fc) (bn:=bn) (bc:=bc) (fs:=fs) (bs:=bs) (d0:=d0) (d1:=d1) hA hF hBs).al (.cells #[.int .i64 0,.int .i64 0] 23)
 have k8:=Bx.at ((w.alloc (.cells #[.int .i64 st,.int .i64 z0,.int .i64 z1,.slice A n c] 26)).alloc (.cells #[.slice FA fn fc,.slice BA bn bc,.int .i64 fs,.int .i64 bs,.int .i64 d0,.int .i64 d1] 50)) 23 #[.int .i64 0,.int .i64 0] (n:=w.heap.size + 1 + 1) (by simp)
 obtain ⟨W,hW⟩ : ∃ x,((w.alloc (.cells #[.int .i64 st,.int .i64 z0,.int .i64 z1,.slice A n c] 26)).alloc (.cells #[.slice FA fn fc,.slice BA bn bc,.int .i64 fs,.int .i64 bs,.int .i64 d0,.int .i64 d1] 50)).alloc (.cells #[.int .i64 0,.int .i64 0] 23) = x:=⟨_,rfl⟩
 rw [hW] at I k8
 have HW:=Lib.hid hW
 clear hW hA hF hBs
 have hend : ∀ (X : World),Below w.heap.size w X → Bx X (w.heap.size + 1 + 1) 23 #[.int .i64 0,.int .i64 0] → ∀ a b : Int,((X.setCell ⟨w.heap.size + 1 + 1,0,none⟩ (.int .i64 a)).setCell ⟨w.heap.size + 1 + 1,1,none⟩ (.int .i64 b)).cell? ⟨w.heap.size + 1 + 1,0,none⟩ = some (.int .i64 a) ∧ ((X.setCell ⟨w.heap.size + 1 + 1,0,none⟩ (.int .i64 a)).setCell ⟨w.heap.size + 1 + 1,1,none⟩ (.int .i64 b)).cell? ⟨w.heap.size + 1 + 1,1,none⟩ = some (.int .i64 b) ∧ Below w.heap.size w ((X.setCell ⟨w.heap.size + 1 + 1,0,none⟩ (.int .i64 a)).setCell ⟨w.heap.size + 1 + 1,1,none⟩ (.int .i64 b)):=by
  intro X hX k82 a b
  have kz : Bx ((X.setCell ⟨w.heap.size + 1 + 1,0,none⟩ (.int .i64 a)).setCell ⟨w.heap.size + 1 + 1,1,none⟩ (.int .i64 b)) (w.heap.size + 1 + 1) 23 #[.int .i64 a,.int .i64 b]:=by have:=(k82.set_ 0 (.int .i64 a)).set_ 1 (.int .i64 b); simpa using this
  obtain ⟨e0,e1,_,_⟩:=kz.two
  exact ⟨e0,e1,(hX.setCell (p:=⟨w.heap.size + 1 + 1,0,none⟩) (by simp; omega) _).setCell (p:=⟨w.heap.size + 1 + 1,1,none⟩) (by simp; omega) _⟩
 have HEND:=Lib.hid hend
 clear hend
 obtain ⟨a0,a1,a2,a3,af,az⟩:=I.k1.four
 obtain ⟨s0,s1,s2,s3,s4,s5,sf,sz⟩:=I.k2.six
 obtain ⟨r0,r1,rf,rz⟩:=k8.two
 rcases h with ⟨h,rfl,rfl,rfl⟩ | ⟨h,hbad,rfl,rfl,rfl⟩ | ⟨h,hfit,hR1,hR2,rfl⟩
 ·have hc1 : (ckS st z0 z1 es F B fs bs d0 d1 != 0) = true:=by simpa using h
  clear h
  go_enter Try.func30,Try.ntmps30
  go_upto_region 1 with fail
  rw [HW.out]
  go_wp2_with (first | (go_at_call 34; refine (refSlip_any st z0 z1 A n c es FA fn fc BA bn bc fs bs d0 d1 F B _ hn HL.out I.ev hfn hbn HF.out HBn.out I.sf I.sb).mono ?_; rintro e w1 ⟨rfl,hq⟩; replace I:=I.bel hq; replace k8:=k8.call hq; clear hq; clear a0 a1 a2 a3 af az s0 s1 s2 s3 s4 s5 sf sz r0 r1 rf rz; obtain ⟨a0,a1,a2,a3,af,az⟩:=I.k1.four; obtain ⟨s0,s1,s2,s3,s4,s5,sf,sz⟩:=I.k2.six; obtain ⟨r0,r1,rf,rz⟩:=k8.two) | fail)
  obtain ⟨e0,e1,eB⟩:=HEND.out _ I.hb k8 0 0
  refine bodyPost_ret (v:=.tuple #[.agg #[.int .i64 0,.int .i64 0],.int .i64 (ckS st z0 z1 es F B fs bs d0 d1)]) (by simp [results,Try.results30,go_sem,e0,e1]) rfl ⟨rfl,eB⟩
 ·have HC:=Lib.hid h
  have hlog:=ckL_zero (ckS_zero h).1
  obtain ⟨m,hm,hml⟩:=hbad
  have hsf:=smF_fits hlog hm
  rw [decide_eq_false (by omega),HL.out] at hsf
  obtain ⟨A1,hA1⟩ : ∃ x,(smA z0 z1 es (knB st z0 z1 es (-1) 0 n) (wtc st es F B) n).1 = x:=⟨_,rfl⟩
  obtain ⟨A2,hA2⟩ : ∃ x,(smA z0 z1 es (knB st z0 z1 es (-1) 0 n) (wtc st es F B) n).2 = x:=⟨_,rfl⟩
  have HSF:=Lib.hid (And.intro hsf (show smA z0 z1 es (knB st z0 z1 es (-1) 0 n) (wtc st es F B) n = (A1,A2) by rw [← hA1,← hA2]))
  clear h hm hml hsf hA1 hA2 hlog
  go_enter Try.func30,Try.ntmps30
  go_upto_region 1 with fail
  rw [HW.out]
  go_upto_region 5 with (first | (go_at_call 34; refine (refSlip_any st z0 z1 A n c es FA fn fc BA bn bc fs bs d0 d1 F B _ hn HL.out I.ev hfn hbn HF.out HBn.out I.sf I.sb).mono ?_; rintro e w1 ⟨rfl,hq⟩; replace I:=I.bel hq; replace k8:=k8.call hq; clear hq; clear a0 a1 a2 a3 af az s0 s1 s2 s3 s4 s5 sf sz r0 r1 rf rz; obtain ⟨a0,a1,a2,a3,af,az⟩:=I.k1.four; obtain ⟨s0,s1,s2,s3,s4,s5,sf,sz⟩:=I.k2.six; obtain ⟨r0,r1,rf,rz⟩:=k8.two; rw [HC.out]) | (go_at_call 72; refine (refnet_any st z0 z1 A n c es FA fn fc BA bn bc fs bs d0 d1 F B (-1) 0 A1 A2 _ _ false _ hn HL.out I.ev hfn hbn HF.out HBn.out I.sf I.sb HC.out (by omega) (by omega) (by omega) (by omega) HSF.out.1 HSF.out.2 rfl rfl).mono ?_; rintro r w2 ⟨rfl,hq⟩; simp only [Bool.false_eq_true,if_false]) | fail)
  have I3:=(I.bel hq).al (.cells #[.int .i64 0,.int .i64 0] 23)
  have k83:=(k8.call hq).alloc (.cells #[.int .i64 0,.int .i64 0] 23)
  obtain ⟨X,hX⟩ : ∃ x,w2.alloc (.cells #[.int .i64 0,.int .i64 0] 23) = x:=⟨_,rfl⟩
  rw [hX] at I3 k83 ⊢
  clear hX hq I k8
  obtain ⟨r0,r1,rf,rz⟩:=k83.two
  go_wp2_with fail
  obtain ⟨e0,e1,eB⟩:=HEND.out _ I3.hb k83 0 0
  refine bodyPost_ret (v:=.tuple #[.agg #[.int .i64 0,.int .i64 0],.int .i64 9]) (by simp [results,Try.results30,go_sem,e0,e1]) rfl ⟨rfl,eB⟩
 ·have HC:=Lib.hid h
  have hlog:=ckL_zero (ckS_zero h).1
  have hsf:=smF_fits hlog hfit
  rw [decide_eq_true rfl,HL.out] at hsf
  have hsm:=refNet_eq hlog hfit (ckS_n1 h) F B
  rw [HL.out] at hsm hR1 hR2
  obtain ⟨A1,hA1⟩ : ∃ x,(netOf st es F B (zst st z0 z1 es 0) n).1 = x:=⟨_,rfl⟩
  obtain ⟨A2,hA2⟩ : ∃ x,(netOf st es F B (zst st z0 z1 es 0) n).2 = x:=⟨_,rfl⟩
  rw [hA1] at hR1
  rw [hA2] at hR2
  have HSF:=Lib.hid (And.intro hsf (show smA z0 z1 es (knB st z0 z1 es (-1) 0 n) (wtc st es F B) n = (A1,A2) by rw [hsm,← hA1,← hA2]))
  have HR:=Lib.hid (And.intro hR1 hR2)
  clear h hsf hA1 hA2 hlog hsm hfit hR1 hR2
  go_enter Try.func30,Try.ntmps30
  go_upto_region 1 with fail
  rw [HW.out]
  go_upto_region 5 with (first | (go_at_call 34; refine (refSlip_any st z0 z1 A n c es FA fn fc BA bn bc fs bs d0 d1 F B _ hn HL.out I.ev hfn hbn HF.out HBn.out I.sf I.sb).mono ?_; rintro e w1 ⟨rfl,hq⟩; replace I:=I.bel hq; replace k8:=k8.call hq; clear hq; clear a0 a1 a2 a3 af az s0 s1 s2 s3 s4 s5 sf sz r0 r1 rf rz; obtain ⟨a0,a1,a2,a3,af,az⟩:=I.k1.four; obtain ⟨s0,s1,s2,s3,s4,s5,sf,sz⟩:=I.k2.six; obtain ⟨r0,r1,rf,rz⟩:=k8.two; rw [HC.out]) | (go_at_call 72; refine (refnet_any st z0 z1 A n c es FA fn fc BA bn bc fs bs d0 d1 F B (-1) 0 A1 A2 _ _ true _ hn HL.out I.ev hfn hbn HF.out HBn.out I.sf I.sb HC.out (by omega) (by omega) (by omega) (by omega) HSF.out.1 HSF.out.2 rfl rfl).mono ?_; rintro r w2 ⟨rfl,hq⟩; simp only [if_true]; rw [← HR.out.1,← HR.out.2]) | fail)
  have I3:=(I.bel hq).al (.cells #[.int .i64 R1,.int .i64 R2] 23)
  have k83:=(k8.call hq).alloc (.cells #[.int .i64 R1,.int .i64 R2] 23)
  have k7:=Bx.new w2 23 #[.int .i64 R1,.int .i64 R2]
  obtain ⟨X,hX⟩ : ∃ x,w2.alloc (.cells #[.int .i64 R1,.int .i64 R2] 23) = x:=⟨_,rfl⟩
  obtain ⟨b7,hb7⟩ : ∃ x,w2.heap.size = x:=⟨_,rfl⟩
  rw [hX] at I3 k83 k7 ⊢
  rw [hb7] at k7 ⊢
  clear hX hb7 hq I k8
  obtain ⟨r0,r1,rf,rz⟩:=k83.two
  obtain ⟨m0,m1,mf,mz⟩:=k7.two
  go_wp2_with fail
  obtain ⟨e0,e1,eB⟩:=HEND.out _ I3.hb k83 R1 R2
  refine bodyPost_ret (v:=.tuple #[.agg #[.int .i64 R1,.int .i64 R2],.int .i64 0]) (by simp [results,Try.results30,go_sem,e0,e1]) rfl ⟨rfl,eB⟩
end Go.Proofs.Ytgbogdckmfencaa
