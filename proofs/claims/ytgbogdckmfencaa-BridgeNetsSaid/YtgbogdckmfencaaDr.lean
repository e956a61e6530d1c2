/- The reference's Seat, driver, Pay, and what an event adds to the loads of a slip. -/
import Derived.Test.YtgbogdckmfencaaNpM
import Derived.Test.YtgbogdckmfencaaRg
import Derived.Test.YtgbogdckmfencaaOpM
import Derived.Test.YtgbogdckmfencaaRfM
import Derived.Test.YtgbogdckmfencaaIn
set_option linter.unusedSimpArgs false
set_option linter.unusedVariables false
namespace Go.Proofs.Ytgbogdckmfencaa
open Go Go.RowKit
theorem refSeat_any (s : Int) (w : World) (h1 : 0 ≤ s) (h2 : s ≤ 2) :
  Calls Try.prog 107 #[.int .i64 s] w fun e w' => e = .returned (.agg #[.int .i64 (drLo s),.int .i64 (drHi s)]) ∧ Below w.heap.size w w':=by
 have hs : s = 0 ∨ s = 1 ∨ s = 2:=by omega
 rcases hs with rfl | rfl | rfl
 all_goals
  go_enter Try.func107,Try.ntmps107
  go_wp2_with fail
 ·exact bodyPost_ret (v:=.agg #[.int .i64 (drLo 0),.int .i64 (drHi 0)]) (by simp [results,Try.results107,go_sem,drLo,drHi]) rfl ⟨rfl,by repeat (first | exact Below.refl _ _ | refine Below.alloc ?_ (by simp) _ | refine Below.setCell ?_ (by simp) _)⟩
 ·exact bodyPost_ret (v:=.agg #[.int .i64 (drLo 1),.int .i64 (drHi 1)]) (by simp [results,Try.results107,go_sem,drLo,drHi]) rfl ⟨rfl,by repeat (first | exact Below.refl _ _ | refine Below.alloc ?_ (by simp) _ | refine Below.setCell ?_ (by simp) _)⟩
 ·exact bodyPost_ret (v:=.agg #[.int .i64 (drLo 2),.int .i64 (drHi 2)]) (by simp [results,Try.results107,go_sem,drLo,drHi]) rfl ⟨rfl,by repeat (first | exact Below.refl _ _ | refine Below.alloc ?_ (by simp) _ | refine Below.setCell ?_ (by simp) _)⟩
theorem refPay_any (x d : Int) (w : World) (h1 : -1000000000 ≤ x) (h2 : x ≤ 1000000000) (h3 : 0 ≤ d) (h4 : d ≤ 1000) :
  Calls Try.prog 74 #[.int .i64 x,.int .i64 d] w fun e w' => e = .returned (.int .i64 (max 0 x * (1000 - d) / 1000)) ∧ w = w':=by
 have hp : ∀ y : Int,0 ≤ y → y ≤ 1000000000 → 0 ≤ y * (1000 - d) ∧ y * (1000 - d) ≤ 1000000000000:=fun y h0 hy => by
  constructor
  ·exact Int.mul_nonneg h0 (by omega)
  ·calc y * (1000 - d) ≤ 1000000000 * (1000 - d):=Int.mul_le_mul_of_nonneg_right hy (by omega)
    _ ≤ 1000000000000:=by omega
 by_cases hx : 0 ≤ x
 ·have e : max 0 x = x:=by omega
  obtain ⟨p1,p2⟩:=hp x hx h2
  have E:=Lib.hid e
  clear e hp
  go_enter Try.func74,Try.ntmps74
  go_wp2
  all_goals
   go_ret
   refine ⟨ret_int ?_,rfl⟩
   rw [E.out]
  ·generalize x * (1000 - d) = q at *
   have e1 : wrap64 q = q:=IntWalk.wrap64_in q ⟨by omega,by omega⟩
   rw [e1,Int.tdiv_eq_ediv_of_nonneg p1]
   exact IntWalk.wrap64_in _ ⟨by omega,by omega⟩
  ·obtain rfl : x = 0:=by omega
   have e0 : wrap64 0 = 0:=IntWalk.wrap64_in 0 ⟨by omega,by omega⟩
   simp [e0]
 ·have e : max 0 x = 0:=by omega
  have E:=Lib.hid e
  clear e hp
  go_enter Try.func74,Try.ntmps74
  go_wp2
  go_ret
  refine ⟨ret_int ?_,rfl⟩
  rw [E.out]; simp
set_option maxRecDepth 100000 in
set_option maxHeartbeats 4000000 in
theorem refDriver_any (FA : Option Addr) (fn fc : Nat) (BA : Option Addr) (bn bc : Nat) (fs bs d0 d1 : Int) (w : World) (h1 : 0 ≤ fs) (h2 : fs ≤ 2) (h3 : 0 ≤ bs) (h4 : bs ≤ 2) (g1 : 0 ≤ d0) (g2 : d0 ≤ 200) (g3 : 0 ≤ d1) (g4 : d1 ≤ 200) :
  Calls Try.prog 102 #[.agg #[.slice FA fn fc,.slice BA bn bc,.int .i64 fs,.int .i64 bs,.int .i64 d0,.int .i64 d1]] w fun e w' => e = .returned (.agg #[.int .i64 (dsLo fs bs d0 d1),.int .i64 (dsHi fs bs d0 d1)]) ∧ Below w.heap.size w w':=by
 have k1:=(Bx.new w 50 #[.slice FA fn fc,.slice BA bn bc,.int .i64 fs,.int .i64 bs,.int .i64 d0,.int .i64 d1]).alloc (.cells #[.int .i64 0,.int .i64 0] 23)
 have k2:=Bx.at (w.alloc (.cells #[.slice FA fn fc,.slice BA bn bc,.int .i64 fs,.int .i64 bs,.int .i64 d0,.int .i64 d1] 50)) 23 #[.int .i64 0,.int .i64 0] (n:=w.heap.size + 1) (by simp)
 have hB0 : Below w.heap.size w ((w.alloc (.cells #[.slice FA fn fc,.slice BA bn bc,.int .i64 fs,.int .i64 bs,.int .i64 d0,.int .i64 d1] 50)).alloc (.cells #[.int .i64 0,.int .i64 0] 23)):=((Below.refl _ _).alloc (Nat.le_refl _) _).alloc (by simp) _
 obtain ⟨V,hV⟩ : ∃ x,(w.alloc (.cells #[.slice FA fn fc,.slice BA bn bc,.int .i64 fs,.int .i64 bs,.int .i64 d0,.int .i64 d1] 50)).alloc (.cells #[.int .i64 0,.int .i64 0] 23) = x:=⟨_,rfl⟩
 rw [hV] at k1 k2 hB0
 have HV:=Lib.hid hV
 clear hV
 go_enter Try.func102,Try.ntmps102
 go_upto_region 1 with fail
 rw [HV.out]
 go_cut [3,4] (fun v3 v4 wr => ∃ p q : Nat,v3 = .pointer (some ⟨p,0,none⟩) ∧ v4 = .pointer (some ⟨q,0,none⟩) ∧ Bx wr p 23 #[.int .i64 (drLo fs),.int .i64 (drHi fs)] ∧ Bx wr q 23 #[.int .i64 (drLo bs),.int .i64 (drHi bs)] ∧ Below V.heap.size V wr)
 case first =>
  refine AnyG.start (fun w' : World => Below V.heap.size V w') (fun i => i != 8 && i != 9) (by kernel_rfl) ?_
  have hS : (fun w' : World => Below V.heap.size V w') (World.drew _):=(Below.refl _ _).drew
  refine AnyG.takeC (i:=0) (v:=?_) rfl (by kernel_rfl) (fun _ _ _ h => h) rfl ?_ hS ?_
  rotate_left
  ·(intro w' _; go_simp; try with_reducible rfl)
  try simp only [Act.put,Sp4,Sp5,Sp6]
  refine AnyG.takeC (i:=1) (v:=?_) rfl (by kernel_rfl) (fun _ _ _ h => h) rfl ?_ hS ?_
  rotate_left
  ·(intro w' hSw; (try dsimp only at hSw); obtain ⟨s0,s1,s2,s3,s4,s5,sf,sz⟩:=(k1.call hSw).six; go_simp; try with_reducible rfl)
  try simp only [Act.put,Sp4,Sp5,Sp6]
  refine AnyG.takeC (i:=3) (v:=?_) rfl (by kernel_rfl) (fun _ _ _ h => h) rfl ?_ hS ?_
  rotate_left
  ·(intro w' _; go_simp; try with_reducible rfl)
  try simp only [Act.put,Sp4,Sp5,Sp6]
  refine AnyG.takeC (i:=4) (v:=?_) rfl (by kernel_rfl) (fun _ _ _ h => h) rfl ?_ hS ?_
  rotate_left
  ·(intro w' hSw; (try dsimp only at hSw); obtain ⟨s0,s1,s2,s3,s4,s5,sf,sz⟩:=(k1.call hSw).six; go_simp; try with_reducible rfl)
  try simp only [Act.put,Sp4,Sp5,Sp6]
  refine RegRel.AnyG.rel2 [6,7] [0,1,3,4] [8,9] [[],[],[],[],[],[2],[],[],[2,5,6,7],[2,5,6,7,8]] [(9,2),(12,5),(3,6),(4,7)] [(2,fun vs _ => vs 2 = .agg #[.int .i64 (drLo fs),.int .i64 (drHi fs)]),(5,fun vs _ => vs 5 = .agg #[.int .i64 (drLo bs),.int .i64 (drHi bs)]),(6,fun vs w1 => ∃ g,vs 6 = .pointer (some ⟨g,0,none⟩) ∧ V.heap.size ≤ g ∧ Bx w1 g 23 #[.int .i64 0,.int .i64 0]),(7,fun vs w1 => ∃ g,vs 7 = .pointer (some ⟨g,0,none⟩) ∧ V.heap.size ≤ g ∧ Bx w1 g 23 #[.int .i64 0,.int .i64 0])]
   (by kernel_rfl) (by kernel_rfl) (by kernel_rfl) (by kernel_rfl) (by decide) (by decide) (fun _ h => Below.trans ((Below.refl V.heap.size V).drew) h) ?hst ?hcg ?hstep ?hfin
  case hst => exact ⟨fun _ _ _ h _ => h,fun _ _ _ h _ => h,fun _ _ _ ⟨g,h1,h2,h3⟩ hb => ⟨g,h1,h2,h3.call hb⟩,fun _ _ _ ⟨g,h1,h2,h3⟩ hb => ⟨g,h1,h2,h3.call hb⟩,trivial⟩
  case hcg => exact ⟨fun _ _ _ he h => (he 2 (by simp)).trans h,fun _ _ _ he h => (he 5 (by simp)).trans h,fun _ _ _ he ⟨g,h1,h2⟩ => ⟨g,(he 6 (by simp)).trans h1,h2⟩,fun _ _ _ he ⟨g,h1,h2⟩ => ⟨g,(he 7 (by simp)).trans h1,h2⟩,trivial⟩
  case hstep =>
   refine ⟨?_,?_,?_,?_,trivial⟩
   ·rintro vs v1 - hv
    refine ⟨_,_,rfl,rfl,?_⟩
    clear hS
    simp only [RegRel.fillT,List.foldl_cons,List.foldl_nil,Sp4,Sp5,Sp6]
    go_simp
    refine (refSeat_any fs _ h1 h2).mono ?_
    rintro rr v2 ⟨rfl,hb2⟩
    first | exact ⟨rfl,hb2,rfl,fun h => absurd h (by decide)⟩ | exact ⟨rfl,hb2,fun h => absurd h (by decide)⟩ | exact ⟨rfl,hb2,rfl⟩ | exact ⟨rfl,hb2⟩ | exact hb2 | trace_state
   ·rintro vs v1 ⟨h2,-⟩ hv
    refine ⟨_,_,rfl,rfl,?_⟩
    clear hS
    try dsimp only at h2
    simp only [RegRel.fillT,List.foldl_cons,List.foldl_nil,Sp4,Sp5,Sp6]
    clear h2
    go_simp
    refine (refSeat_any bs _ h3 h4).mono ?_
    rintro rr v2 ⟨rfl,hb2⟩
    first | exact ⟨rfl,hb2,rfl,fun h => absurd h (by decide)⟩ | exact ⟨rfl,hb2,fun h => absurd h (by decide)⟩ | exact ⟨rfl,hb2,rfl⟩ | exact ⟨rfl,hb2⟩ | exact hb2 | trace_state
   ·rintro vs v1 - hv
    refine ⟨_,_,rfl,rfl,?_⟩
    clear hS
    simp only [RegRel.fillT,List.foldl_cons,List.foldl_nil,Sp4,Sp5,Sp6]
    go_simp
    have hva : V.heap.size ≤ v1.heap.size:=hv.size
    refine ⟨⟨_,rfl,?_,Bx.new _ _ _⟩,(Below.refl _ _).alloc (Nat.le_refl _) _⟩
    omega
   ·rintro vs v1 - hv
    refine ⟨_,_,rfl,rfl,?_⟩
    clear hS
    simp only [RegRel.fillT,List.foldl_cons,List.foldl_nil,Sp4,Sp5,Sp6]
    go_simp
    have hva : V.heap.size ≤ v1.heap.size:=hv.size
    refine ⟨⟨_,rfl,?_,Bx.new _ _ _⟩,(Below.refl _ _).alloc (Nat.le_refl _) _⟩
    omega
  case hfin =>
   rintro vs v1 ⟨h2,h5,⟨g6,h6,hg6,hx6⟩,⟨g7,h7,hg7,hx7⟩,-⟩ hv hdist
   clear hS
   try dsimp only at h2 h5 h6 h7
   have hne6_7 : g6 ≠ g7:=fun e => hdist 6 (by simp) 7 (by simp) (by decide) (by rw [h6,h7,e])
   clear hdist
   simp only [List.filter_cons,List.contains_cons,List.contains_nil,Nat.reduceBEq,Bool.or_false,Bool.not_false,if_true,List.filter_nil]
   simp only [RegRel.fillT,List.foldl_cons,List.foldl_nil,Sp4,Sp5,Sp6]
   simp only [h2,h5,h6,h7]
   clear h2 h5 h6 h7
   have hvW : Below V.heap.size V v1:=((Below.refl V.heap.size V).drew).trans hv
   obtain ⟨r0,r1,rf,rz⟩:=hx6.two
   obtain ⟨q0,q1,qf,qz⟩:=hx7.two
   refine RegRel.wpOps_go rfl rfl ?_
   go_simp
   refine RegRel.wpOps_go rfl rfl ?_
   go_simp
   refine RegRel.wpOps_end ?_
   go_simp
   clear r0 r1 rf rz q0 q1 qf qz
   go_wp2_with fail
   go_meet
   exact ⟨g6,g7,rfl,rfl,by have:=((((hx6.set_ 0 (.int .i64 (drLo fs))).set_ 1 (.int .i64 (drHi fs))).far (p:=⟨g7,0,none⟩) hne6_7 (.int .i64 (drLo bs))).far (p:=⟨g7,1,none⟩) hne6_7 (.int .i64 (drHi bs))); simpa using this,by have:=((((hx7.far (p:=⟨g6,0,none⟩) (Ne.symm hne6_7) (.int .i64 (drLo fs))).far (p:=⟨g6,1,none⟩) (Ne.symm hne6_7) (.int .i64 (drHi fs))).set_ 0 (.int .i64 (drLo bs))).set_ 1 (.int .i64 (drHi bs))); simpa using this,(Below.setCell (Below.setCell (Below.setCell (Below.setCell hvW hg6 _) hg6 _) hg7 _) hg7 _)⟩
 case rest =>
  obtain ⟨p,q,rfl,rfl,kp,kq,hBr⟩:=hcut
  obtain ⟨w3,rfl⟩ : ∃ x,x = wc:=⟨_,rfl⟩
  have c1 : drLo fs = 0 ∨ drLo fs = 1:=by unfold drLo; split <;> simp
  have c2 : drHi fs = 0 ∨ drHi fs = 1:=by unfold drHi; split <;> simp
  have c3 : drLo bs = 0 ∨ drLo bs = 1:=by unfold drLo; split <;> simp
  have c4 : drHi bs = 0 ∨ drHi bs = 1:=by unfold drHi; split <;> simp
  have hlo : dsLo fs bs d0 d1 = min ((drLo bs - drHi fs) * d0) ((drLo bs - drHi fs) * d1):=rfl
  have hhi : dsHi fs bs d0 d1 = max ((drHi bs - drLo fs) * d0) ((drHi bs - drLo fs) * d1):=rfl
  generalize drLo fs = x1 at *
  generalize drHi fs = x2 at *
  generalize drLo bs = x3 at *
  generalize drHi bs = x4 at *
  have HLO:=Lib.hid hlo
  have HHI:=Lib.hid hhi
  clear hlo hhi
  go_upto_region 2 with fail
  refine AnyG.startC (by kernel_rfl) ?_
  refine AnyG.takeP (i:=0) (v:=?_) rfl (by kernel_rfl) (fun _ _ _ h => h) rfl ?_ ?_
  rotate_left
  ·(intro w'; go_simp; try with_reducible rfl)
  try simp only [Act.put,Sp1,Sp2,Sp3,Sp4,Sp5,Sp6]
  refine AnyG.takeP (i:=2) (v:=?_) rfl (by kernel_rfl) (fun _ _ _ h => h) rfl ?_ ?_
  rotate_left
  ·(intro w'; go_simp; try with_reducible rfl)
  try simp only [Act.put,Sp1,Sp2,Sp3,Sp4,Sp5,Sp6]
  refine AnyG.takeP (i:=5) (v:=?_) rfl (by kernel_rfl) (fun _ _ _ h => h) rfl ?_ ?_
  rotate_left
  ·(intro w'; go_simp; try with_reducible rfl)
  try simp only [Act.put,Sp1,Sp2,Sp3,Sp4,Sp5,Sp6]
  refine AnyG.takeP (i:=7) (v:=?_) rfl (by kernel_rfl) (fun _ _ _ h => h) rfl ?_ ?_
  rotate_left
  ·(intro w'; go_simp; try with_reducible rfl)
  try simp only [Act.put,Sp1,Sp2,Sp3,Sp4,Sp5,Sp6]
  refine AnyG.enter (fun w' : World => Below w3.heap.size w3 w') (fun i => true) ?_
  have hS : (fun w' : World => Below w3.heap.size w3 w') (World.drew _):=Below.drew (Below.refl _ _)
  refine AnyG.takeC (i:=1) (v:=?_) rfl (by kernel_rfl) (fun _ _ _ h => h) rfl ?_ hS ?_
  rotate_left
  ·(intro w' hSw; (try dsimp only at hSw); obtain ⟨q0,q1,qf,qz⟩:=(kq.call hSw).two; go_simp; try with_reducible rfl)
  try simp only [Act.put,Sp1,Sp2,Sp3,Sp4,Sp5,Sp6]
  refine AnyG.takeC (i:=3) (v:=?_) rfl (by kernel_rfl) (fun _ _ _ h => h) rfl ?_ hS ?_
  rotate_left
  ·(intro w' hSw; (try dsimp only at hSw); obtain ⟨p0,p1,pf,pz⟩:=(kp.call hSw).two; go_simp; try with_reducible rfl)
  try simp only [Act.put,Sp1,Sp2,Sp3,Sp4,Sp5,Sp6]
  refine AnyG.takeC (i:=4) (v:=?_) rfl (by kernel_rfl) (fun _ _ _ h => h) rfl ?_ hS ?_
  rotate_left
  ·(intro w' hSw; (try dsimp only at hSw); go_simp; try with_reducible rfl)
  try simp only [Act.put,Sp1,Sp2,Sp3,Sp4,Sp5,Sp6]
  refine AnyG.takeC (i:=6) (v:=?_) rfl (by kernel_rfl) (fun _ _ _ h => h) rfl ?_ hS ?_
  rotate_left
  ·(intro w' hSw; (try dsimp only at hSw); obtain ⟨q0,q1,qf,qz⟩:=(kq.call hSw).two; go_simp; try with_reducible rfl)
  try simp only [Act.put,Sp1,Sp2,Sp3,Sp4,Sp5,Sp6]
  refine AnyG.takeC (i:=8) (v:=?_) rfl (by kernel_rfl) (fun _ _ _ h => h) rfl ?_ hS ?_
  rotate_left
  ·(intro w' hSw; (try dsimp only at hSw); obtain ⟨p0,p1,pf,pz⟩:=(kp.call hSw).two; go_simp; try with_reducible rfl)
  try simp only [Act.put,Sp1,Sp2,Sp3,Sp4,Sp5,Sp6]
  refine AnyG.takeC (i:=9) (v:=?_) rfl (by kernel_rfl) (fun _ _ _ h => h) rfl ?_ hS ?_
  rotate_left
  ·(intro w' hSw; (try dsimp only at hSw); go_simp; try with_reducible rfl)
  try simp only [Act.put,Sp1,Sp2,Sp3,Sp4,Sp5,Sp6]
  refine AnyG.takeC (i:=10) (v:=?_) rfl (by kernel_rfl) (fun _ _ _ h => h) rfl ?_ hS ?_
  rotate_left
  ·(intro w' hSw; (try dsimp only at hSw); go_simp; try with_reducible rfl)
  try simp only [Act.put,Sp1,Sp2,Sp3,Sp4,Sp5,Sp6]
  refine AnyG.takeC (i:=11) (v:=?_) rfl (by kernel_rfl) (fun _ _ _ h => h) rfl ?_ hS ?_
  rotate_left
  ·(intro w' hSw; (try dsimp only at hSw); go_simp; try with_reducible rfl)
  try simp only [Act.put,Sp1,Sp2,Sp3,Sp4,Sp5,Sp6]
  refine AnyG.done (by kernel_rfl) ?_ _
  go_simp
  try dsimp only at hS
  have k1b:=k1.call hBr
  have k2b:=k2.call hBr
  have hB3:=hB0.trans (hBr.mono hB0.size)
  obtain ⟨s0,s1,s2,s3,s4,s5,sf,sz⟩:=k1b.six
  obtain ⟨r0,r1,rf,rz⟩:=k2b.two
  clear s0 s1 s2 s3 kp kq
  rcases c1 with rfl | rfl <;> rcases c2 with rfl | rfl <;> rcases c3 with rfl | rfl <;> rcases c4 with rfl | rfl
  all_goals
   go_wp2_with fail
  all_goals
   refine bodyPost_ret (v:=.agg #[.int .i64 (dsLo fs bs d0 d1),.int .i64 (dsHi fs bs d0 d1)]) (by rw [HLO.out,HHI.out]; simp [results,Try.results102,go_sem,r0,r1,World.cell?_setCell_same',World.cell?_setCell_other,World.cell?_alloc_past,rz] <;> omega) rfl ⟨rfl,?_⟩
   repeat (first | exact hB3 | refine Below.drew ?_ | refine Below.setCell ?_ (by simp) _)
theorem ldRng_bd {st : Int} {e : Ev} (z : Int) (h1 : 1 ≤ st) (h2 : st ≤ 100) (he : EvOk e) (hz1 : -200 ≤ z) (hz2 : z ≤ 200) : Bd 100000 (ldRng st e z):=by
 obtain ⟨_,s1,s2,l1,l2,_,_,_,_⟩:=he
 unfold ldRng ldLo ldHi Bd
 refine ⟨?_,?_,?_,?_⟩ <;> (dsimp only; repeat' split) <;> omega
set_option maxRecDepth 100000 in
set_option maxHeartbeats 4000000 in
theorem refAdds_any (st z0 z1 : Int) (A : Option Addr) (n c : Nat) (es : List Ev) (FA : Option Addr) (fn fc : Nat) (BA : Option Addr) (bn bc : Nat) (fs bs d0 d1 : Int) (F B : List Int) (i : Nat) (e : Ev) (z : Int) (w : World) (hn : n ≤ 14) (hl : es.length = n) (hA : EvsAt w w.heap.size A es) (hfn : fn ≤ 1000) (hbn : bn ≤ 1000) (hf : F.length = fn) (hb : B.length = bn) (hF : Sl w w.heap.size 1 FA (ints F)) (hBs : Sl w w.heap.size 1 BA (ints B))
  (he : es[i]? = some e) (ho : EvOk e) (hs1 : 1 ≤ st) (hs2 : st ≤ 100) (hz1 : -200 ≤ z) (hz2 : z ≤ 200) (hov : overlap F B = false) :
  Calls Try.prog 106 #[.agg #[.int .i64 st,.int .i64 z0,.int .i64 z1,.slice A n c],.agg #[.slice FA fn fc,.slice BA bn bc,.int .i64 fs,.int .i64 bs,.int .i64 d0,.int .i64 d1],.int .i64 (i : Int),.int .i64 z] w fun r w' => r = .returned (.agg #[.int .i64 (wtc st es F B i z).1,.int .i64 (wtc st es F B i z).2]) ∧ Below w.heap.size w w':=by
 have hw : wtc st es F B i z = wgt st e F B i z:=by unfold wtc; rw [he]; dsimp only; rw [if_pos ⟨hz1,hz2⟩]
 rw [hw]
 obtain ⟨v1,hv1⟩ : ∃ x,(wgt st e F B i z).1 = x:=⟨_,rfl⟩
 obtain ⟨v2,hv2⟩ : ∃ x,(wgt st e F B i z).2 = x:=⟨_,rfl⟩
 rw [hv1,hv2]
 have HV:=Lib.hid (And.intro hv1 hv2)
 clear hv1 hv2
 have hbd:=ldRng_bd z hs1 hs2 ho hz1 hz2
 obtain ⟨lo,hlo⟩ : ∃ x,(ldRng st e z).1 = x:=⟨_,rfl⟩
 obtain ⟨hi,hhi⟩ : ∃ x,(ldRng st e z).2 = x:=⟨_,rfl⟩
 unfold Bd at hbd
 rw [hlo,hhi] at hbd
 have HLO:=Lib.hid (And.intro hlo hhi)
 obtain ⟨fb,hfb⟩ : ∃ x,F.contains (i : Int) = x:=⟨_,rfl⟩
 obtain ⟨bb,hbb⟩ : ∃ x,B.contains (i : Int) = x:=⟨_,rfl⟩
 have HFB:=Lib.hid hfb
 have HBB:=Lib.hid hbb
 have HOV:=Lib.hid hov
 have HE:=Lib.hid he
 have HO:=Lib.hid ho
 have HL:=Lib.hid hl
 have HF:=Lib.hid hf
 have HBn:=Lib.hid hb
 have hb0 : -100000 ≤ -lo ∧ -lo ≤ 100000 ∧ -100000 ≤ -hi ∧ -hi ≤ 100000:=by omega
 clear hw hlo hhi hfb hbb hov he ho hl hf hb
 have I:=(LS.start (st:=st) (z0:=z0) (z1:=z1) (n:=n) (c:=c) (fn:=fn) (fc:=fc) (bn:=bn) (bc:=bc) (fs:=fs) (bs:=bs) (d0:=d0) (d1:=d1) hA hF hBs).al (.cells #[.int .i64 0,.int .i64 0] 23)
 have k8:=Bx.at ((w.alloc (.cells #[.int .i64 st,.int .i64 z0,.int .i64 z1,.slice A n c] 26)).alloc (.cells #[.slice FA fn fc,.slice BA bn bc,.int .i64 fs,.int .i64 bs,.int .i64 d0,.int .i64 d1] 50)) 23 #[.int .i64 0,.int .i64 0] (n:=w.heap.size + 1 + 1) (by simp)
 obtain ⟨W,hW⟩ : ∃ x,((w.alloc (.cells #[.int .i64 st,.int .i64 z0,.int .i64 z1,.slice A n c] 26)).alloc (.cells #[.slice FA fn fc,.slice BA bn bc,.int .i64 fs,.int .i64 bs,.int .i64 d0,.int .i64 d1] 50)).alloc (.cells #[.int .i64 0,.int .i64 0] 23) = x:=⟨_,rfl⟩
 rw [hW] at I k8
 have HW:=Lib.hid hW
 clear hW hA hF hBs
 obtain ⟨a0,a1,a2,a3,af,az⟩:=I.k1.four
 go_enter Try.func106,Try.ntmps106
 go_upto_region 1 with fail
 rw [HW.out]
 go_upto_region 2 with (first | (go_at_call 90; refine (refLoads_any st z0 z1 A n c es i e z _ HL.out hn I.ev HE.out HO.out hs1 hs2 (by omega) (by omega)).mono ?_; rintro r w1 ⟨rfl,hq⟩; rw [HLO.out.1,HLO.out.2]) | fail)
 clear a0 a1 a2 a3 af az
 have I2:=(I.bel hq).al (.cells #[.int .i64 lo,.int .i64 hi] 23)
 have k82:=(k8.call hq).alloc (.cells #[.int .i64 lo,.int .i64 hi] 23)
 have k9:=Bx.new w1 23 #[.int .i64 lo,.int .i64 hi]
 have h9 : w.heap.size + 1 + 1 < w1.heap.size:=(k8.call hq).lt
 obtain ⟨x2,hx2⟩ : ∃ x,w1.alloc (.cells #[.int .i64 lo,.int .i64 hi] 23) = x:=⟨_,rfl⟩
 obtain ⟨b9,hb9⟩ : ∃ b,w1.heap.size = b:=⟨_,rfl⟩
 rw [hx2] at I2 k82 k9 ⊢
 rw [hb9] at k9 h9 ⊢
 clear hx2 hb9 hq I k8
 obtain ⟨s0,s1,s2,s3,s4,s5,sf,sz⟩:=I2.k2.six
 obtain ⟨m0,m1,mf,mz⟩:=k9.two
 obtain ⟨r0,r1,rf,rz⟩:=k82.two
 have hend : ∀ a b : Int,((x2.setCell ⟨w.heap.size + 1 + 1,0,none⟩ (.int .i64 a)).setCell ⟨w.heap.size + 1 + 1,1,none⟩ (.int .i64 b)).cell? ⟨w.heap.size + 1 + 1,0,none⟩ = some (.int .i64 a) ∧ ((x2.setCell ⟨w.heap.size + 1 + 1,0,none⟩ (.int .i64 a)).setCell ⟨w.heap.size + 1 + 1,1,none⟩ (.int .i64 b)).cell? ⟨w.heap.size + 1 + 1,1,none⟩ = some (.int .i64 b) ∧ Below w.heap.size w ((x2.setCell ⟨w.heap.size + 1 + 1,0,none⟩ (.int .i64 a)).setCell ⟨w.heap.size + 1 + 1,1,none⟩ (.int .i64 b)):=by
  intro a b
  have kz : Bx ((x2.setCell ⟨w.heap.size + 1 + 1,0,none⟩ (.int .i64 a)).setCell ⟨w.heap.size + 1 + 1,1,none⟩ (.int .i64 b)) (w.heap.size + 1 + 1) 23 #[.int .i64 a,.int .i64 b]:=by have:=(k82.set_ 0 (.int .i64 a)).set_ 1 (.int .i64 b); simpa using this
  obtain ⟨e0,e1,_,_⟩:=kz.two
  exact ⟨e0,e1,(I2.hb.setCell (p:=⟨w.heap.size + 1 + 1,0,none⟩) (by simp; omega) _).setCell (p:=⟨w.heap.size + 1 + 1,1,none⟩) (by simp; omega) _⟩
 have HEND:=Lib.hid hend
 clear hend
 cases fb
 ·cases bb
  ·have hwz : wgt st e F B i z = (0,0):=wgt_0 (by rw [HBB.out]; simp) (by rw [HFB.out]; simp)
   have hv1 : v1 = 0:=by rw [← HV.out.1,hwz]
   have hv2 : v2 = 0:=by rw [← HV.out.2,hwz]
   subst hv1 hv2
   clear hwz HV
   go_wp2_with (first | (go_at_call_of 79 (Value.slice FA fn fc); refine (among_any FA fn fc F i _ hfn HF.out I2.sf).mono ?_; rintro r y1 ⟨rfl,rfl⟩; rw [HFB.out]) | (go_at_call_of 79 (Value.slice BA bn bc); refine (among_any BA bn bc B i _ hbn HBn.out I2.sb).mono ?_; rintro r y1 ⟨rfl,rfl⟩; rw [HBB.out]) | fail)
   obtain ⟨e0,e1,eB⟩:=HEND.out 0 0
   refine bodyPost_ret (v:=.agg #[.int .i64 0,.int .i64 0]) (by simp [results,Try.results106,go_sem,e0,e1]) rfl ⟨rfl,eB⟩
  ·have hwz : wgt st e F B i z = (-hi,-lo):=by rw [wgt_B HBB.out,HLO.out.1,HLO.out.2]
   have hv1 : v1 = -hi:=by rw [← HV.out.1,hwz]
   have hv2 : v2 = -lo:=by rw [← HV.out.2,hwz]
   subst hv1 hv2
   clear hwz HV
   have n1 : IntKind.i64.wrap (-hi) = -hi:=IntWalk.i64_in _ (by omega)
   have n2 : IntKind.i64.wrap (-lo) = -lo:=IntWalk.i64_in _ (by omega)
   go_wp2_with (first | (go_at_call_of 79 (Value.slice FA fn fc); refine (among_any FA fn fc F i _ hfn HF.out I2.sf).mono ?_; rintro r y1 ⟨rfl,rfl⟩; rw [HFB.out]) | (go_at_call_of 79 (Value.slice BA bn bc); refine (among_any BA bn bc B i _ hbn HBn.out I2.sb).mono ?_; rintro r y1 ⟨rfl,rfl⟩; rw [HBB.out]) | fail)
   obtain ⟨e0,e1,eB⟩:=HEND.out (-hi) (-lo)
   refine bodyPost_ret (v:=.agg #[.int .i64 (-hi),.int .i64 (-lo)]) (by simp [results,Try.results106,go_sem,e0,e1]) rfl ⟨rfl,eB⟩
 ·have hbn0 : ¬ B.contains (i : Int) = true:=fun h => by
   have h1:=HFB.out
   rw [List.contains_eq_mem,decide_eq_true_eq] at h h1
   have:=overlap_yes h1 h
   rw [HOV.out] at this
   cases this
  have hwz : wgt st e F B i z = (lo,hi):=by rw [wgt_F hbn0 HFB.out,← HLO.out.1,← HLO.out.2]
  have hv1 : v1 = lo:=by rw [← HV.out.1,hwz]
  have hv2 : v2 = hi:=by rw [← HV.out.2,hwz]
  subst hv1 hv2
  clear hwz HV hbn0
  go_wp2_with (first | (go_at_call_of 79 (Value.slice FA fn fc); refine (among_any FA fn fc F i _ hfn HF.out I2.sf).mono ?_; rintro r y1 ⟨rfl,rfl⟩; rw [HFB.out]) | (go_at_call_of 79 (Value.slice BA bn bc); refine (among_any BA bn bc B i _ hbn HBn.out I2.sb).mono ?_; rintro r y1 ⟨rfl,rfl⟩; rw [HBB.out]) | fail)
  obtain ⟨e0,e1,eB⟩:=HEND.out v1 v2
  refine bodyPost_ret (v:=.agg #[.int .i64 v1,.int .i64 v2]) (by simp [results,Try.results106,go_sem,e0,e1]) rfl ⟨rfl,eB⟩
end Go.Proofs.Ytgbogdckmfencaa
