/- Numbers of a feed within a range. -/
import Derived.Test.YtgbogdckmfencaaFe3M
import Derived.Test.YtgbogdckmfencaaR3
import Derived.Test.YtgbogdckmfencaaW1M
import Derived.Test.YtgbogdckmfencaaWmM
import Derived.Test.YtgbogdckmfencaaRegM
import Derived.Test.YtgbogdckmfencaaAw
import Derived.ArgAppend
import Derived.OwnWalk
set_option linter.unusedSimpArgs false
set_option linter.unusedVariables false
namespace Go.Proofs.Ytgbogdckmfencaa
open Go.RowKit
/-- Since a region began only the feed has turned, and it is a feed. -/
def FT (g : Nat) (V w' : World) : Prop:=V.grownBy w' (some g) ∧ Fd g w'
/-- What one operation may turn. -/
def FK (g : Nat) (x y : World) : Prop:=x.grownBy y (some g) ∧ (Fd g x → Fd g y)
theorem FT.step {g : Nat} {V x y : World} (h : FT g V x) (k : FK g x y) : FT g V y:=⟨grown_trans h.1 k.1,k.2 h.2⟩
theorem FT.bx {g b t : Nat} {cs : Array Value} {V w' : World} (h : FT g V w') (k : Bx V b t cs) (hne : b ≠ g) : Bx w' b t cs:=k.grown h.1 (by simpa using hne)
theorem FK.bx {g b t : Nat} {cs : Array Value} {V w' : World} (h : FK g V w') (k : Bx V b t cs) (hne : b ≠ g) : Bx w' b t cs:=k.grown h.1 (by simpa using hne)
theorem FK.alloc (g : Nat) (w : World) (o : Obj) : FK g w (w.alloc o):=⟨grown_alloc (grown_refl _ _) _,fun h => h.alloc _⟩
theorem bx4 {x y z u : Int} (P : Int → Prop) (h1 : P x) (h2 : P y) (h3 : P z) (h4 : P u) : ∀ i,i < 4 → ∃ q,(#[Value.int .i64 x,.int .i64 y,.int .i64 z,.int .i64 u] : Array Value)[i]? = some (.int .i64 q) ∧ P q:=by
 intro i hi
 match i,hi with
 | 0,_ => exact ⟨x,rfl,h1⟩
 | 1,_ => exact ⟨y,rfl,h2⟩
 | 2,_ => exact ⟨z,rfl,h3⟩
 | 3,_ => exact ⟨u,rfl,h4⟩
set_option maxRecDepth 100000 in
set_option maxHeartbeats 2000000 in
theorem in_any (g : Nat) (lo hi : Int) (w : World) (h : Fd g w) (h1 : -1000000 ≤ lo) (h2 : lo ≤ hi) (h3 : hi ≤ 1000000) : Calls Try.prog 42 #[.pointer (some ⟨g,0,none⟩),.agg #[.int .i64 lo,.int .i64 hi]] w fun e w' => (∃ r : Int,e = .returned (.int .i64 r) ∧ lo ≤ r ∧ r ≤ hi) ∧ Fd g w' ∧ w.grownBy w' (some g):=by
 have hgl:=h.lt
 have hfd:=h.alloc (.cells #[.int .i64 lo,.int .i64 hi] 23)
 have k3:=Bx.new w 23 #[.int .i64 lo,.int .i64 hi]
 have gr0:=grown_alloc (grown_refl w (some g)) (.cells #[.int .i64 lo,.int .i64 hi] 23)
 have HF:=Lib.hid hfd
 have HK:=Lib.hid k3
 have HG:=Lib.hid gr0
 clear hfd k3 gr0
 go_enter Try.func42,Try.ntmps42
 go_wp2_with fail
 have hfd:=HF.out
 have k3:=HK.out
 have gr0:=HG.out
 clear HF HK HG
 have hne : w.heap.size ≠ g:=by omega
 obtain ⟨b,hbe⟩ : ∃ b,w.heap.size = b:=⟨_,rfl⟩
 obtain ⟨V,hV⟩ : ∃ V,w.alloc (.cells #[.int .i64 lo,.int .i64 hi] 23) = V:=⟨_,rfl⟩
 rw [hV] at hfd k3 gr0 ⊢
 rw [hbe] at k3 hne ⊢
 clear hV hbe
 refine AnyG.start (FT g V) (fun i => i != 19) (by kernel_rfl) ?_
 have hS : FT g V (World.drew _):=⟨grown_drew _ _,hfd.drew⟩
 refine AnyG.take (i:=0) (v:=?_) rfl (by kernel_rfl) (fun _ _ _ h => h) rfl ?_ hS ?_
 rotate_left
 ·(intro w' _; go_simp; try with_reducible rfl)
 try simp only [Act.put,Sp1,Sp2,Sp3,Sp4,Sp5,Sp6]
 refine AnyG.take (i:=1) (v:=?_) rfl (by kernel_rfl) (fun _ _ _ h => h) rfl ?_ hS ?_
 rotate_left
 ·(intro w' _; go_simp; try with_reducible rfl)
 try simp only [Act.put,Sp1,Sp2,Sp3,Sp4,Sp5,Sp6]
 refine AnyG.take (i:=2) (v:=?_) rfl (by kernel_rfl) (fun _ _ _ h => h) rfl ?_ hS ?_
 rotate_left
 ·(intro w' hSw; (try dsimp only at hSw); obtain ⟨c0,c1,cf,cz⟩:=(hSw.bx k3 hne).two; go_simp; try with_reducible rfl)
 try simp only [Act.put,Sp1,Sp2,Sp3,Sp4,Sp5,Sp6]
 refine AnyG.take (i:=3) (v:=?_) rfl (by kernel_rfl) (fun _ _ _ h => h) rfl ?_ hS ?_
 rotate_left
 ·(intro w' _; go_simp; try with_reducible rfl)
 try simp only [Act.put,Sp1,Sp2,Sp3,Sp4,Sp5,Sp6]
 refine AnyG.take (i:=4) (v:=?_) rfl (by kernel_rfl) (fun _ _ _ h => h) rfl ?_ hS ?_
 rotate_left
 ·(intro w' hSw; (try dsimp only at hSw); obtain ⟨c0,c1,cf,cz⟩:=(hSw.bx k3 hne).two; go_simp; try with_reducible rfl)
 try simp only [Act.put,Sp1,Sp2,Sp3,Sp4,Sp5,Sp6]
 refine AnyG.take (i:=5) (v:=?_) rfl (by kernel_rfl) (fun _ _ _ h => h) rfl ?_ hS ?_
 rotate_left
 ·(intro w' _; go_simp; try with_reducible rfl)
 try simp only [Act.put,Sp1,Sp2,Sp3,Sp4,Sp5,Sp6]
 refine AnyG.take (i:=6) (v:=?_) rfl (by kernel_rfl) (fun _ _ _ h => h) rfl ?_ hS ?_
 rotate_left
 ·(intro w' _; go_simp; try with_reducible rfl)
 try simp only [Act.put,Sp1,Sp2,Sp3,Sp4,Sp5,Sp6]
 refine AnyG.take (i:=7) (v:=?_) rfl (by kernel_rfl) (fun _ _ _ h => h) rfl ?_ hS ?_
 rotate_left
 ·(intro w' hSw; (try dsimp only at hSw); obtain ⟨c0,c1,cf,cz⟩:=(hSw.bx k3 hne).two; go_simp; try with_reducible rfl)
 try simp only [Act.put,Sp1,Sp2,Sp3,Sp4,Sp5,Sp6]
 refine AnyG.take (i:=8) (v:=?_) rfl (by kernel_rfl) (fun _ _ _ h => h) rfl ?_ hS ?_
 rotate_left
 ·(intro w' _; go_simp; try with_reducible rfl)
 try simp only [Act.put,Sp1,Sp2,Sp3,Sp4,Sp5,Sp6]
 refine AnyG.take (i:=9) (v:=?_) rfl (by kernel_rfl) (fun _ _ _ h => h) rfl ?_ hS ?_
 rotate_left
 ·(intro w' hSw; (try dsimp only at hSw); obtain ⟨c0,c1,cf,cz⟩:=(hSw.bx k3 hne).two; go_simp; try with_reducible rfl)
 try simp only [Act.put,Sp1,Sp2,Sp3,Sp4,Sp5,Sp6]
 refine AnyG.take (i:=11) (v:=?_) rfl (by kernel_rfl) (fun _ _ _ h => h) rfl ?_ hS ?_
 rotate_left
 ·(intro w' _; go_simp; try with_reducible rfl)
 try simp only [Act.put,Sp1,Sp2,Sp3,Sp4,Sp5,Sp6]
 refine AnyG.take (i:=12) (v:=?_) rfl (by kernel_rfl) (fun _ _ _ h => h) rfl ?_ hS ?_
 rotate_left
 ·(intro w' _; go_simp; try with_reducible rfl)
 try simp only [Act.put,Sp1,Sp2,Sp3,Sp4,Sp5,Sp6]
 refine AnyG.take (i:=13) (v:=?_) rfl (by kernel_rfl) (fun _ _ _ h => h) rfl ?_ hS ?_
 rotate_left
 ·(intro w' hSw; (try dsimp only at hSw); obtain ⟨c0,c1,cf,cz⟩:=(hSw.bx k3 hne).two; go_simp; try with_reducible rfl)
 try simp only [Act.put,Sp1,Sp2,Sp3,Sp4,Sp5,Sp6]
 refine AnyG.take (i:=14) (v:=?_) rfl (by kernel_rfl) (fun _ _ _ h => h) rfl ?_ hS ?_
 rotate_left
 ·(intro w' _; go_simp; try with_reducible rfl)
 try simp only [Act.put,Sp1,Sp2,Sp3,Sp4,Sp5,Sp6]
 refine AnyG.take (i:=15) (v:=?_) rfl (by kernel_rfl) (fun _ _ _ h => h) rfl ?_ hS ?_
 rotate_left
 ·(intro w' hSw; (try dsimp only at hSw); obtain ⟨c0,c1,cf,cz⟩:=(hSw.bx k3 hne).two; go_simp; try with_reducible rfl)
 try simp only [Act.put,Sp1,Sp2,Sp3,Sp4,Sp5,Sp6]
 refine RegRel.AnyG.rel3 [0,1,2,3,4,5,6,7,8,9,11,12,13,14,15] [19] [[],[],[],[],[],[],[],[],[],[],[],[],[],[],[],[],[10],[10,16],[10,16,17],[10,16,17,18]] [(15,10),(21,16),(22,17),(23,18),(4,19)] (FT g V) (fun _ => FK g) [(10,fun vs w1 => ∃ r : Int,vs 10 = .int .i64 r ∧ lo ≤ r ∧ r ≤ hi),(16,fun vs w1 => ∃ r : Int,vs 16 = .int .i64 r ∧ lo ≤ r ∧ r ≤ hi),(17,fun vs w1 => ∃ (q : Nat) (cs : Array Value),vs 17 = .slice (some ⟨q,0,none⟩) 4 4 ∧ q ≠ g ∧ Bx w1 q 3 cs ∧ ∀ i,i < 4 → ∃ x,cs[i]? = some (.int .i64 x) ∧ (lo ≤ x ∧ x ≤ hi)),(18,fun vs w1 => ∃ r : Int,vs 18 = .int .i64 r ∧ lo ≤ r ∧ r ≤ hi)]
  (by kernel_rfl) (by kernel_rfl) (by kernel_rfl) (by decide) (by decide) hS (fun _ h => h) (fun _ _ _ h k => h.step k) ?hst ?hcg ?hstep ?hfin
 case hst => exact ⟨fun _ _ _ _ _ _ _ _ h _ hk => h,fun _ _ _ _ _ _ _ _ h _ hk => h,fun _ _ _ _ _ _ _ _ h _ hk => (by obtain ⟨q,cs,e1,e2,e3,e4⟩:=h; exact ⟨q,cs,e1,e2,hk.bx e3 e2,e4⟩),fun _ _ _ _ _ _ _ _ h _ hk => h,trivial⟩
 case hcg => exact ⟨fun _ _ _ he h => (by dsimp only at h ⊢; rw [he 10 (by simp)]; exact h),fun _ _ _ he h => (by dsimp only at h ⊢; rw [he 16 (by simp)]; exact h),fun _ _ _ he h => (by dsimp only at h ⊢; rw [he 17 (by simp)]; exact h),fun _ _ _ he h => (by dsimp only at h ⊢; rw [he 18 (by simp)]; exact h),trivial⟩
 case hstep =>
  refine ⟨?_,?_,?_,?_,trivial⟩
  ·rintro vs v1 - ⟨hgr,hfd⟩
   refine ⟨_,_,rfl,rfl,?_⟩
   clear hS
   simp only [RegRel.fillT,List.foldl_cons,List.foldl_nil,Sp4,Sp5,Sp6]
   go_simp
   refine (between_any g lo hi _ hfd (by omega) (by omega) (by omega) (by omega)).mono ?_
   rintro rr v2 ⟨⟨r,rfl,hr1,hr2⟩,hf2,hg2⟩
   first | exact ⟨⟨r,rfl,by omega,by omega⟩,⟨hg2,fun _ => hf2⟩,rfl⟩ | exact ⟨⟨r,rfl,by omega,by omega⟩,⟨hg2,fun _ => hf2⟩⟩ | trace_state
  ·rintro vs v1 ⟨⟨r10,h10,ra10,rb10⟩,-⟩ ⟨hgr,hfd⟩
   refine ⟨_,_,rfl,rfl,?_⟩
   clear hS
   try dsimp only at h10
   simp only [RegRel.fillT,List.foldl_cons,List.foldl_nil,Sp4,Sp5,Sp6]
   try simp only [h10]
   clear h10
   go_simp
   refine (between_any g lo hi _ hfd (by omega) (by omega) (by omega) (by omega)).mono ?_
   rintro rr v2 ⟨⟨r,rfl,hr1,hr2⟩,hf2,hg2⟩
   first | exact ⟨⟨r,rfl,by omega,by omega⟩,⟨hg2,fun _ => hf2⟩,rfl⟩ | exact ⟨⟨r,rfl,by omega,by omega⟩,⟨hg2,fun _ => hf2⟩⟩ | trace_state
  ·rintro vs v1 ⟨⟨r10,h10,ra10,rb10⟩,⟨r16,h16,ra16,rb16⟩,-⟩ ⟨hgr,hfd⟩
   refine ⟨_,_,rfl,rfl,?_⟩
   clear hS
   try dsimp only at h10 h16
   simp only [RegRel.fillT,List.foldl_cons,List.foldl_nil,Sp4,Sp5,Sp6]
   try simp only [h10,h16]
   clear h10 h16
   go_simp
   have hlt:=hfd.lt
   refine ⟨⟨_,rfl,by omega,_,Bx.new _ _ _,bx4 _ ⟨by omega,by omega⟩ ⟨by omega,by omega⟩ ⟨by omega,by omega⟩ ⟨by omega,by omega⟩⟩,FK.alloc _ _ _⟩
  ·rintro vs v1 ⟨⟨r10,h10,ra10,rb10⟩,⟨r16,h16,ra16,rb16⟩,⟨q17,cs17,h17,hq17,hb17,hc17⟩,-⟩ ⟨hgr,hfd⟩
   refine ⟨_,_,rfl,rfl,?_⟩
   clear hS
   try dsimp only at h10 h16 h17
   simp only [RegRel.fillT,List.foldl_cons,List.foldl_nil,Sp4,Sp5,Sp6]
   try simp only [h10,h16,h17]
   clear h10 h16 h17
   go_simp
   refine (either_any g q17 4 cs17 (fun r => lo ≤ r ∧ r ≤ hi) _ hfd hb17 hq17 (by omega) (by omega) hc17).mono ?_
   rintro rr v2 ⟨⟨r,rfl,hr1,hr2⟩,hf2,hg2⟩
   first | exact ⟨⟨r,rfl,by omega,by omega⟩,⟨hg2,fun _ => hf2⟩,rfl⟩ | exact ⟨⟨r,rfl,by omega,by omega⟩,⟨hg2,fun _ => hf2⟩⟩ | trace_state
 case hfin =>
  rintro vs v1 ⟨⟨r10,h10,ra10,rb10⟩,⟨r16,h16,ra16,rb16⟩,⟨q17,cs17,h17,hq17,hb17,hc17⟩,⟨r18,h18,ra18,rb18⟩,-⟩ ⟨hgr,hfd⟩
  clear hS
  try dsimp only at h10 h16 h17 h18
  simp only [List.filter_cons,List.contains_cons,List.contains_nil,Nat.reduceBEq,Bool.or_false,Bool.not_false,if_true,List.filter_nil]
  simp only [RegRel.fillT,List.foldl_cons,List.foldl_nil,Sp4,Sp5,Sp6]
  simp only [h10,h16,h17,h18]
  clear h10 h16 h17 h18
  refine RegRel.wpOps_go rfl rfl ?_
  go_simp
  refine RegRel.wpOps_end ?_
  go_simp
  go_wp2_with fail
  go_ret
  exact ⟨⟨r18,rfl,ra18,rb18⟩,hfd,grown_trans gr0 hgr⟩
end Go.Proofs.Ytgbogdckmfencaa

/-! swarfkit: FeedOf, Round, Shows. -/
namespace Go.Proofs.Ytgbogdckmfencaa
open Go.RowKit
set_option maxHeartbeats 2000000 in
theorem round_any (x n : Int) (w : World) (h1 : 1 ≤ n) (h2 : n ≤ 1000000) (h3 : -1000000000 ≤ x) (h4 : x ≤ 1000000000) : Calls Try.prog 86 #[.int .i64 x,.int .i64 n] w fun e w' => e = .returned (.int .i64 (x % n)) ∧ w = w':=by
 by_cases hn : n < 2
 ·obtain rfl : n = 1:=by omega
  go_enter Try.func86,Try.ntmps86
  go_wp2_with fail
  go_ret
  exact ⟨ret_int (by omega),rfl⟩
 ·have b1 : -n < x.tmod n:=by have:=Int.lt_tmod_of_pos x (show 0 < n by omega); omega
  have b2 : x.tmod n < n:=Int.tmod_lt_of_pos x (by omega)
  have e : x.tmod n % n = x % n:=by
   rw [Int.tmod_def,show x - n * x.tdiv n = x + n * (-(x.tdiv n)) by rw [Int.mul_neg,Int.sub_eq_add_neg],Int.add_mul_emod_self_left]
  have HE:=Lib.hid e
  clear e
  go_enter Try.func86,Try.ntmps86
  go_wp2_with fail
  go_ret
  exact ⟨ret_int HE.out,rfl⟩
/-- What a bridge shows. -/
def shows (st n z : Int) : Int:=n + z + st / 2 - (n + z + st / 2) % st
set_option maxHeartbeats 2000000 in
theorem shows_any (st n z : Int) (w : World) (h1 : 1 ≤ st) (h2 : st ≤ 1000) (h3 : -1000000 ≤ n) (h4 : n ≤ 1000000) (h5 : -1000000 ≤ z) (h6 : z ≤ 1000000) : Calls Try.prog 56 #[.int .i64 st,.int .i64 n,.int .i64 z] w fun e w' => e = .returned (.int .i64 (shows st n z)) ∧ w = w':=by
 have b1:=Int.emod_nonneg (n + z + st / 2) (show st ≠ 0 by omega)
 have b2:=Int.emod_lt_of_pos (n + z + st / 2) (show 0 < st by omega)
 go_enter Try.func56,Try.ntmps56
 go_wp2_with (go_at_call 86; refine (round_any _ _ _ (by omega) (by omega) (by omega) (by omega)).mono ?_; rintro e w1 ⟨rfl,rfl⟩)
 go_ret
 exact ⟨rfl,rfl⟩
set_option maxRecDepth 100000 in
set_option maxHeartbeats 2000000 in
theorem feedOf_any (A : Option Addr) (n c : Nat) (L : List Int) (w : World) (hn : n ≤ 9000000000000000000) (hl : L.length = n) (hA : Sl w w.heap.size 1 A (ints L)) : Calls Try.prog 16 #[.slice A n c] w fun e w' => (∃ g,e = .returned (.pointer (some ⟨g,0,none⟩)) ∧ w.heap.size ≤ g ∧ Fd g w') ∧ Below w.heap.size w w':=by
 have HL:=Lib.hid hl
 clear hl
 go_enter Try.func16,Try.ntmps16
 go_wp2_with fail
 go_loopw [4] (fun i wr => ∃ k : Nat,k ≤ n ∧ i = .int .i64 k ∧ Fd w.heap.size wr ∧ Below w.heap.size w wr) (fun i _ => n - (intOf i).toNat)
 case atStart => exact ⟨0,by omega,rfl,⟨88172645463325252,by omega,by omega,Bx.new _ _ _⟩,(Below.refl _ _).alloc (Nat.le_refl _) _⟩
 case round =>
  obtain ⟨k,hk,rfl,hfd,hBe⟩:=hrel
  by_cases hkn : k < n
  ·have hka : k < L.length:=by rw [HL.out]; exact hkn
   obtain ⟨ad,rfl,hab,p0⟩:=ints_at (hA.below hBe) hka
   generalize L[k]'hka = y at *
   clear hka
   obtain ⟨x,hx1,hx2,hx⟩:=hfd
   obtain ⟨a0,af,az⟩:=hx.one
   go_wp2_with fail
   obtain ⟨a0,af,az⟩:=hx.one
   refine AnyG.start (fun w' : World => Below wr.heap.size wr w') (fun i => i != 12 && i != 13 && i != 14) (by kernel_rfl) ?_
   have hS : (fun w' : World => Below wr.heap.size wr w') (World.drew _):=(Below.refl _ _).drew
   refine AnyG.take (i:=0) (v:=?_) rfl (by kernel_rfl) (fun _ _ _ h => h) rfl ?_ hS ?_
   rotate_left
   ·(intro w' _; go_simp; try with_reducible rfl)
   try simp only [Act.put,Sp4,Sp5,Sp6]
   refine AnyG.take (i:=1) (v:=?_) rfl (by kernel_rfl) (fun _ _ _ h => h) rfl ?_ hS ?_
   rotate_left
   ·(intro w' _; go_simp; try with_reducible rfl)
   try simp only [Act.put,Sp4,Sp5,Sp6]
   refine AnyG.take (i:=2) (v:=?_) rfl (by kernel_rfl) (fun _ _ _ h => h) rfl ?_ hS ?_
   rotate_left
   ·(intro w' _; go_simp; try with_reducible rfl)
   try simp only [Act.put,Sp4,Sp5,Sp6]
   refine AnyG.take (i:=3) (v:=?_) rfl (by kernel_rfl) (fun _ _ _ h => h) rfl ?_ hS ?_
   rotate_left
   ·(intro w' _; go_simp; try with_reducible rfl)
   try simp only [Act.put,Sp4,Sp5,Sp6]
   refine AnyG.take (i:=4) (v:=?_) rfl (by kernel_rfl) (fun _ _ _ h => h) rfl ?_ hS ?_
   rotate_left
   ·(intro w' hSw; (try dsimp only at hSw); have a0:=cellC hSw a0; have p0:=cellC hSw p0; go_simp; try with_reducible rfl)
   try simp only [Act.put,Sp4,Sp5,Sp6]
   refine AnyG.take (i:=5) (v:=?_) rfl (by kernel_rfl) (fun _ _ _ h => h) rfl ?_ hS ?_
   rotate_left
   ·(intro w' _; go_simp; try with_reducible rfl)
   try simp only [Act.put,Sp4,Sp5,Sp6]
   refine AnyG.take (i:=6) (v:=?_) rfl (by kernel_rfl) (fun _ _ _ h => h) rfl ?_ hS ?_
   rotate_left
   ·(intro w' _; go_simp; try with_reducible rfl)
   try simp only [Act.put,Sp4,Sp5,Sp6]
   refine AnyG.take (i:=7) (v:=?_) rfl (by kernel_rfl) (fun _ _ _ h => h) rfl ?_ hS ?_
   rotate_left
   ·(intro w' _; go_simp; try with_reducible rfl)
   try simp only [Act.put,Sp4,Sp5,Sp6]
   refine AnyG.take (i:=8) (v:=?_) rfl (by kernel_rfl) (fun _ _ _ h => h) rfl ?_ hS ?_
   rotate_left
   ·(intro w' hSw; (try dsimp only at hSw); have a0:=cellC hSw a0; have p0:=cellC hSw p0; go_simp; try with_reducible rfl)
   try simp only [Act.put,Sp4,Sp5,Sp6]
   refine AnyG.take (i:=9) (v:=?_) rfl (by kernel_rfl) (fun _ _ _ h => h) rfl ?_ hS ?_
   rotate_left
   ·(intro w' _; go_simp; try with_reducible rfl)
   try simp only [Act.put,Sp4,Sp5,Sp6]
   refine AnyG.take (i:=10) (v:=?_) rfl (by kernel_rfl) (fun _ _ _ h => h) rfl ?_ hS ?_
   rotate_left
   ·(intro w' _; go_simp; try with_reducible rfl)
   try simp only [Act.put,Sp4,Sp5,Sp6]
   refine AnyG.take (i:=11) (v:=?_) rfl (by kernel_rfl) (fun _ _ _ h => h) rfl ?_ hS ?_
   rotate_left
   ·(intro w' _; go_simp; try with_reducible rfl)
   try simp only [Act.put,Sp4,Sp5,Sp6]
   clear hS
   refine AnyG.one (i:=12) (by kernel_rfl) rfl rfl ?_
   go_simp
   refine Onward.last rfl ?_
   try simp only [Act.put,Sp4,Sp5,Sp6]
   refine AnyG.one (i:=13) (by kernel_rfl) rfl rfl ?_
   go_simp
   refine Onward.last rfl ?_
   try simp only [Act.put,Sp4,Sp5,Sp6]
   refine AnyG.one (i:=14) (by kernel_rfl) rfl rfl ?_
   go_simp
   refine Onward.last rfl ?_
   try simp only [Act.put,Sp4,Sp5,Sp6]
   refine AnyG.done (by kernel_rfl) ?_ _
   go_simp
   clear a0 af az p0
   generalize hq : bits BinOp.xor IntKind.u64 _ _ = q
   have hx1 : 0 ≤ q ∧ q < 18446744073709551616:=by rw [← hq]; exact bits_u64 _ _ _
   clear hq
   replace hx : Bx (World.setCell wr ⟨w.heap.size,0,none⟩ (.int .u64 q)).drew w.heap.size 88 #[.int .u64 q]:=by simpa using (hx.set_ 0 (.int .u64 q)).drew
   replace hBe : Below w.heap.size w (World.setCell wr ⟨w.heap.size,0,none⟩ (.int .u64 q)).drew:=(hBe.setCell (by simp) _).drew
   generalize (World.setCell wr ⟨w.heap.size,0,none⟩ (.int .u64 q)).drew = w2 at *
   go_wp2_with (go_at_call 57; refine (next_any _ _ ⟨q,hx1.1,hx1.2,hx⟩).mono ?_; rintro e w3 ⟨⟨y3,rfl,hy1,hy2⟩,hf3,hg3⟩)
   go_roundw
   case rel => exact ⟨k + 1,by omega,by go_num,hf3,hBe.grown hg3 hBe.size (fun j e => by cases e; omega)⟩
   case measure => simp [intOf]; omega
  ·obtain rfl : k = n:=by omega
   go_wp2_with fail
   go_ret
   exact ⟨⟨_,rfl,Nat.le_refl _,hfd⟩,hBe⟩
end Go.Proofs.Ytgbogdckmfencaa

/-! Logs that are made with a fact: they are valid, and their zeros fit. Nothing of the program. -/
namespace Go.Proofs.Ytgbogdckmfencaa
structure EvMade (st ld : Int) (e : Ev) (z n : Int) : Prop where
 kd : e.kd = 1 ∨ e.kd = 2 ∨ e.kd = 3
 c0 : -3 ≤ e.c0
 c1 : e.c0 ≤ e.c1
 c2 : e.c1 ≤ 4
 n0 : 0 ≤ n
 n1 : n ≤ ld
 k1 : e.kd = 1 → n = 0
 ld_ : e.ld = if e.kd = 2 then n else 0
 sh : e.sh = shows st n z
/-- A log of these events was made with these zeros and loads; the last zero. -/
inductive Made (st z0 z1 ld : Int) : List (Ev × Int × Int) → Int → Prop
 | nil (z : Int) (h1 : z0 ≤ z) (h2 : z ≤ z1) : Made st z0 z1 ld [] z
 | snoc (ts : List (Ev × Int × Int)) (z : Int) (e : Ev) (z' n : Int) (h : Made st z0 z1 ld ts z) (he : EvMade st ld e z' n) (h1 : z + e.c0 ≤ z') (h2 : z' ≤ z + e.c1) : Made st z0 z1 ld (ts ++ [(e,z',n)]) z'
def evsOf (ts : List (Ev × Int × Int)) : List Ev:=ts.map (·.1)
theorem Made.bd {st z0 z1 ld : Int} {ts : List (Ev × Int × Int)} {z : Int} (h : Made st z0 z1 ld ts z) (h0 : -9 ≤ z0) (h1 : z1 ≤ 9) : -9 - 3 * (ts.length : Int) ≤ z ∧ z ≤ 9 + 4 * (ts.length : Int):=by
 induction h with
 | nil z a b => simp; omega
 | snoc ts z e z' n h he a b ih =>
  have:=he.c0; have:=he.c2
  rw [List.length_append,List.length_singleton]
  push_cast
  omega
theorem shows_bd {st n z : Int} (h : 1 ≤ st) : shows st n z ≤ n + z + st / 2 ∧ n + z + st / 2 - st < shows st n z:=by
 have b1:=Int.emod_nonneg (n + z + st / 2) (show st ≠ 0 by omega)
 have b2:=Int.emod_lt_of_pos (n + z + st / 2) (show 0 < st by omega)
 unfold shows
 omega
theorem shows_mod {st n z : Int} : (shows st n z).tmod st = 0:=by
 refine Int.tmod_eq_zero_of_dvd ?_
 unfold shows
 exact Int.dvd_self_sub_emod
theorem ckR_ok {a b lo hi : Int} (h1 : lo ≤ a) (h2 : a ≤ b) (h3 : b ≤ hi) : ckR a b lo hi = 0:=by
 unfold ckR
 rw [if_neg (by omega),if_neg (by omega)]
theorem ckE_made {st ld : Int} {e : Ev} {z n : Int} (h : EvMade st ld e z n) (hs1 : 1 ≤ st) (hs2 : st ≤ 100) (hl : ld ≤ 50000) (hz1 : -200 ≤ z) (hz2 : z ≤ 200) : ckE st e = 0:=by
 obtain ⟨kd,c0,c1,c2,n0,n1,k1,hld,sh⟩:=h
 have hb:=shows_bd (n:=n) (z:=z) hs1
 have hm:=shows_mod (st:=st) (n:=n) (z:=z)
 rw [← sh] at hb hm
 have hl1 : 0 ≤ e.ld ∧ e.ld ≤ 60000:=by rw [hld]; split <;> omega
 have hl2 : ¬ (e.ld ≠ 0 ∧ e.kd ≠ 2):=by rintro ⟨a,b⟩; rw [hld,if_neg b] at a; exact a rfl
 unfold ckE
 rw [if_neg (by omega),if_neg (by omega),if_neg (by simp [hm]),if_neg (by omega),if_neg hl2]
 exact ckR_ok (by omega) c1 (by omega)
theorem ckEs_all {st : Int} {es : List Ev} (h : ∀ e ∈ es,ckE st e = 0) : ckEs st es = 0:=by
 induction es with
 | nil => rfl
 | cons a r ih =>
  rw [ckEs,if_neg (by simp [h a (by simp)])]
  exact ih fun e he => h e (by simp [he])
theorem Made.all {st z0 z1 ld : Int} {ts : List (Ev × Int × Int)} {z : Int} (h : Made st z0 z1 ld ts z) (h0 : -9 ≤ z0) (h1 : z1 ≤ 9) (hn : ts.length ≤ 14) : ∀ p ∈ ts,EvMade st ld p.1 p.2.1 p.2.2 ∧ -200 ≤ p.2.1 ∧ p.2.1 ≤ 200:=by
 induction h with
 | nil z a b => intro p hp; cases hp
 | snoc ts z e z' n h he a b ih =>
  intro p hp
  rw [List.length_append,List.length_singleton] at hn
  have hb:=(Made.snoc ts z e z' n h he a b).bd h0 h1
  rw [List.length_append,List.length_singleton] at hb
  rcases List.mem_append.1 hp with hp | hp
  ·exact ih (by omega) p hp
  ·obtain rfl : p = (e,z',n):=by simpa using hp
   refine ⟨he,?_,?_⟩ <;> (push_cast at hb; dsimp only; omega)
theorem Made.ck {st z0 z1 ld : Int} {ts : List (Ev × Int × Int)} {z : Int} (h : Made st z0 z1 ld ts z) (hs1 : 1 ≤ st) (hs2 : st ≤ 100) (h0 : -9 ≤ z0) (h01 : z0 ≤ z1) (h1 : z1 ≤ 9) (hn : ts.length ≤ 14) (hl : ld ≤ 50000) : ckL st z0 z1 (evsOf ts) = 0:=by
 have hall:=h.all h0 h1 hn
 unfold ckL
 rw [if_neg (by omega),if_neg (by rw [ckR_ok (by omega) h01 (by omega)]; simp),if_neg (by unfold evsOf; rw [List.length_map]; omega)]
 refine ckEs_all fun e he => ?_
 obtain ⟨p,hp,rfl⟩:=List.mem_map.1 he
 obtain ⟨k1,k2,k3⟩:=hall p hp
 exact ckE_made k1 hs1 hs2 hl k2 k3
theorem bef_pre (st z0 z1 : Int) (es : List Ev) (e : Ev) : ∀ k,k ≤ es.length → bef st z0 z1 (es ++ [e]) k = bef st z0 z1 es k:=by
 intro k
 induction k with
 | zero => intro _; rfl
 | succ k ih =>
  intro hk
  rw [bef,bef,ih (by omega),List.getElem?_append_left (by omega)]
theorem bef_last (st z0 z1 : Int) (es : List Ev) (e : Ev) : bef st z0 z1 (es ++ [e]) (es.length + 1) = stepR st (bef st z0 z1 es es.length) e:=by
 rw [bef,bef_pre _ _ _ _ _ _ (Nat.le_refl _)]
 simp
theorem Made.fits {st z0 z1 ld : Int} {ts : List (Ev × Int × Int)} {z : Int} (h : Made st z0 z1 ld ts z) (hs1 : 1 ≤ st) (h0 : -9 ≤ z0) (h1 : z1 ≤ 9) (hn : ts.length ≤ 14) (hl : ld ≤ 60000) :
  ((bef st z0 z1 (evsOf ts) ts.length).1 ≤ z ∧ z ≤ (bef st z0 z1 (evsOf ts) ts.length).2) ∧ ∀ j,j < ts.length → (bef st z0 z1 (evsOf ts) (j + 1)).1 ≤ (bef st z0 z1 (evsOf ts) (j + 1)).2:=by
 induction h with
 | nil z a b => exact ⟨⟨a,b⟩,fun j hj => by cases hj⟩
 | snoc ts z e z' n h he a b ih =>
  have hb:=(Made.snoc ts z e z' n h he a b).bd h0 h1
  rw [List.length_append,List.length_singleton] at hn hb
  obtain ⟨i1,i2⟩:=ih (by omega)
  have hes : evsOf (ts ++ [(e,z',n)]) = evsOf ts ++ [e]:=by simp [evsOf]
  have hel : (evsOf ts).length = ts.length:=by simp [evsOf]
  obtain ⟨kd,c0,c1,c2,n0,n1,k1,hld,sh⟩:=he
  have hsb:=shows_bd (n:=n) (z:=z') hs1
  rw [← sh] at hsb
  have hdiv : 0 ≤ st / 2:=by omega
  have key : (bef st z0 z1 (evsOf ts ++ [e]) (ts.length + 1)).1 ≤ z' ∧ z' ≤ (bef st z0 z1 (evsOf ts ++ [e]) (ts.length + 1)).2:=by
   rw [← hel,bef_last,hel]
   have hlo : ldLo e.kd e.ld ≤ n ∧ n ≤ ldHi e.kd e.ld:=by
    unfold ldLo ldHi
    rcases kd with k | k | k
    ·have:=k1 k; rw [k] at *; simp; omega
    ·rw [k] at hld ⊢; simp at hld ⊢; omega
    ·rw [k] at hld ⊢; simp at hld ⊢; omega
   unfold stepR sLo sHi
   push_cast at hb
   dsimp only
   omega
  refine ⟨?_,fun j hj => ?_⟩
  ·rw [hes,List.length_append,List.length_singleton]; exact key
  ·rw [hes]
   rw [List.length_append,List.length_singleton] at hj
   by_cases hjl : j < ts.length
   ·rw [bef_pre _ _ _ _ _ _ (by rw [hel]; omega)]; exact i2 j hjl
   ·obtain rfl : j = ts.length:=by omega
    omega
end Go.Proofs.Ytgbogdckmfencaa

/-! append to a slice of one's own: where the new slice lies, and that the old one reads as it did. -/
namespace Go.Proofs.Ytgbogdckmfencaa
open Go Go.RowKit
section
variable {P : Program}
theorem ownsRow_up {w : World} {b b' : Nat} {e : TypeId} {size : Nat} {v : Value} {n : Nat} {xs : List Value} (h : w.ownsRow b e size v n xs) (hb : ∀ k,v.ownBlock = some k → b' ≤ k) : w.ownsRow b' e size v n xs:=by
 refine ⟨h.1,?_⟩
 rcases h.2 with h2 | ⟨g,cap,cur,rfl,_,r⟩
 ·exact .inl h2
 ·exact .inr ⟨g,cap,cur,rfl,hb g (by simp [Value.ownBlock]),r⟩
theorem ownsRow_pre {w : World} {b : Nat} {e : TypeId} {size : Nat} {g n m cap : Nat} {xs ys : List Value} (h : w.ownsRow b e size (.slice (some ⟨g,0,none⟩) (n + m) cap) (n + m) (xs ++ ys)) (hx : xs.length = n * size) : w.ownsRow b e size (.slice (some ⟨g,0,none⟩) n cap) n xs:=by
 refine ⟨hx,?_⟩
 rcases h.2 with ⟨h1,_⟩ | ⟨g',cap',cur,h1,hb,hg,hc,hm,hs,ht⟩
 ·simp at h1
 ·simp only [Value.slice.injEq,Option.some.injEq,Addr.mk.injEq,and_true,true_and] at h1
  obtain ⟨rfl,rfl⟩:=h1
  refine .inr ⟨g,cap,cur,rfl,hb,hg,by omega,hm,hs,?_⟩
  have:=congrArg (List.take (n * size)) ht
  rw [List.take_take,Nat.min_eq_left (Nat.mul_le_mul_right _ (by omega)),List.take_left' hx] at this
  exact this
theorem app2 (w : World) (base : Nat) (t ty e : TypeId) (i : TypeInfo) (z : Value) (size bytes : Nat) (ht : P.underlying t = some (.slice e)) (hi : P.info? e = some i) (hz : i.zero = some z)
  (hsize : i.size = size) (hby : i.bytes = bytes) (hzs : z.cells.size = size) (hsz : 0 < size)
  (v : Value) (n : Nat) (xs : List Value) (hown : w.ownsRow base e size v n xs)
  (a : Addr) (m c : Nat) (news : List Value) (hl : news.length = m * size) (hnews : ∀ j u,news[j]? = some u → w.cell? (a.add j) = some u) (h1 : ∀ u ∈ news,u.oneCell' = true)
  (h63 : n + m ≤ maxLen) (hbytes : (n + m) * bytes ≤ 140737488355328) (hbase : base ≤ w.heap.size) :
  ∃ v' w',(Builtin.append_ #[t,t] ty #[v,.slice (some a) m c]).run P w = .ok v' w' ∧ w'.ownsRow base e size v' (n + m) (xs ++ news) ∧ w.grownBy w' v.ownBlock ∧ w'.ownsRow base e size v n xs ∧ (v'.ownBlock = v.ownBlock ∨ ∀ k,v'.ownBlock = some k → w.heap.size ≤ k):=by
 obtain ⟨v',w',hr,h2,h3,_⟩:=run_append_own (P:=P) w base t ty e i z size bytes ht hi hz hsize hby hzs hsz v n xs hown a m c news hl hnews h1 h63 hbytes hbase
 refine ⟨v',w',hr,h2,h3,?_⟩
 have hown':=hown
 rcases hown'.2 with ⟨rfl,rfl⟩ | ⟨g,cap,cur,rfl,hbg,hg,hnc,hcm,hcs,htake⟩
 ·have hx : xs = []:=List.eq_nil_of_length_eq_zero (by simpa using hown.1)
  subst hx
  refine ⟨World.ownsRow_nil _ _ _ _,.inr ?_⟩
  obtain ⟨v2,w2,hr2,k2,_,_⟩:=run_append_own (P:=P) w w.heap.size t ty e i z size bytes ht hi hz hsize hby hzs hsz (.slice none 0 0) 0 [] (World.ownsRow_nil _ _ _ _) a m c news hl hnews h1 h63 hbytes (Nat.le_refl _)
  rw [hr] at hr2
  injection hr2 with e1 e2
  subst e1
  exact fun k hk => (k2.lt k hk).1
 ·by_cases hroom : n + m ≤ cap
  ·have hfit : n * i.size + news.length ≤ cur.size:=by rw [hl,hcs,hsize,← Nat.add_mul]; exact Nat.mul_le_mul_right _ hroom
   have hr2:=run_append_room (P:=P) w t ty e i ht hi g n cap cur hg a m c news (by rw [hl,hsize]) hnews h1 hroom hfit
   rw [hr] at hr2
   injection hr2 with e1 e2
   subst e1
   exact ⟨ownsRow_pre h2 hown.1,.inl rfl⟩
  ·have holds : ∀ j u,xs[j]? = some u → w.cell? ((⟨g,0,none⟩ : Addr).add j) = some u:=hown.cells (g:=g) rfl
   obtain ⟨v2,w2,hr2,k2,k3⟩:=run_append_arg_grows (P:=P) w t ty e i z size bytes ht hi hz hsize hby hzs hsz ⟨g,0,none⟩ n cap xs hown.1 holds a m c news hl hnews (by omega) h63 hbytes
   rw [hr] at hr2
   injection hr2 with e1 e2
   subst e1 e2
   exact ⟨hown.kept k3 (.inr (by simp [Value.ownBlock])),.inr fun k hk => (k2.lt k hk).1⟩
theorem wp_app2 {o : Oper} {a : Act} {w : World} {K : Act → World → Prop} {Q : Exit → Act → World → Prop} (s x : Operand) (t : TypeId)
  (ho : o.op = .call { callee:=.builtin .append,args:=#[s,x],argTypes:=#[t,t] })
  (base : Nat) (e : TypeId) (i : TypeInfo) (z : Value) (size bytes : Nat) (ht : P.underlying t = some (.slice e)) (hi : P.info? e = some i) (hz : i.zero = some z)
  (hsize : i.size = size) (hby : i.bytes = bytes) (hzs : z.cells.size = size) (hsz : 0 < size)
  (v : Value) (n : Nat) (xs : List Value) (hs : a.eval s = v) (hown : w.ownsRow base e size v n xs)
  (ad : Addr) (m c : Nat) (news : List Value) (hx : a.eval x = .slice (some ad) m c) (hl : news.length = m * size) (hnews : ∀ j u,news[j]? = some u → w.cell? (ad.add j) = some u) (h1 : ∀ u ∈ news,u.oneCell' = true)
  (h63 : n + m ≤ maxLen) (hbytes : (n + m) * bytes ≤ 140737488355328) (hbase : base ≤ w.heap.size)
  (h : ∀ v' w',w'.ownsRow base e size v' (n + m) (xs ++ news) → w.grownBy w' v.ownBlock → w'.ownsRow base e size v n xs → (v'.ownBlock = v.ownBlock ∨ ∀ k,v'.ownBlock = some k → w.heap.size ≤ k) → K (a.put o.dst v') w') : o.wp P a w K Q:=by
 obtain ⟨v',w',hr,h2,h3,h4,h5⟩:=app2 (P:=P) w base t o.type e i z size bytes ht hi hz hsize hby hzs hsz v n xs hown ad m c news hl hnews h1 h63 hbytes hbase
 unfold Oper.wp execOp
 simp only [ho,resolve,invoke,builtin,Sem.run_bind,Sem.run_pure,Result.andThen_ok,List.map_toArray,List.map_cons,List.map_nil,hs,hx,hr]
 exact h v' w' h2 h3 h4 h5
/-- What is owned reads as rows. -/
theorem own_sl {w : World} {b : Nat} {e : TypeId} {size : Nat} {v : Value} {n : Nat} {rs : List (List Value)} (h : w.ownsRow b e size v n rs.flatten) (hs : ∀ r ∈ rs,r.length = size) (hn : rs.length = n) : ∃ A c,v = .slice A n c ∧ Sl w w.heap.size size A rs:=by
 rcases h.2 with ⟨rfl,rfl⟩ | ⟨g,cap,cur,rfl,hb,hg,hc,hm,hcs,ht⟩
 ·have : rs = []:=List.eq_nil_of_length_eq_zero hn
  subst this
  exact ⟨none,0,rfl,Sl.nil _ _ _ _⟩
 ·refine ⟨some ⟨g,0,none⟩,cap,rfl,Sl.of_bx (show Bx w g e cur from hg) fun k r hr j u hu => ?_⟩
  have:=flat_at rs hs k r hr j u hu
  rw [← ht,List.getElem?_take] at this
  split at this
  ·simpa using this
  ·cases this
end
end Go.Proofs.Ytgbogdckmfencaa
