/- The numbers of a feed: within bounds, one of some. -/
import Derived.Test.YtgbogdckmfencaaFe
set_option linter.unusedSimpArgs false
set_option linter.unusedVariables false
namespace Go.Proofs.Ytgbogdckmfencaa
open Go.RowKit

theorem Fd.alloc {g : Nat} {w : World} (h : Fd g w) (o : Obj) : Fd g (w.alloc o):=by obtain ⟨x,h1,h2,h3⟩:=h; exact ⟨x,h1,h2,h3.alloc o⟩
theorem Fd.far {g : Nat} {w : World} (h : Fd g w) {p : Addr} (hp : g ≠ p.block) (u : Value) : Fd g (w.setCell p u):=by obtain ⟨x,h1,h2,h3⟩:=h; exact ⟨x,h1,h2,h3.far hp u⟩
theorem Fd.drew {g : Nat} {w : World} (h : Fd g w) : Fd g w.drew:=h
theorem Fd.lt {g : Nat} {w : World} (h : Fd g w) : g < w.heap.size:=by obtain ⟨x,_,_,h3⟩:=h; exact h3.lt
theorem grown_alloc {a b : World} {row : Option Nat} (h : a.grownBy b row) (o : Obj) : a.grownBy (b.alloc o) row:=grown_trans h (World.grownBy_alloc b o row)
theorem grown_new {a b : World} {row : Option Nat} (h : a.grownBy b row) {g o : Nat} (hg : a.heap.size ≤ g) (u : Value) : a.grownBy (b.setCell ⟨g,o,none⟩ u) row:=⟨h.os,h.tape,h.output,by simpa [World.setCell] using h.size,fun k hk hn => (Below.heap_setCell _ _ _ _ (by simp only; omega)).trans (h.block k hk hn)⟩
set_option maxHeartbeats 2000000 in
theorem below_any (g : Nat) (n : Int) (w : World) (h : Fd g w) (hn : -9223372036854775808 ≤ n) (hn2 : n ≤ 9223372036854775807) : Calls Try.prog 47 #[.pointer (some ⟨g,0,none⟩),.int .i64 n] w fun e w' => (∃ r : Int,e = .returned (.int .i64 r) ∧ 0 ≤ r ∧ (r < n ∨ r = 0)) ∧ Fd g w' ∧ w.grownBy w' (some g):=by
 by_cases hlt : n < 2
 ·go_enter Try.func47,Try.ntmps47
  go_wp2_with fail
  go_ret
  exact ⟨⟨0,rfl,by omega,.inr rfl⟩,h,grown_refl _ _⟩
 ·have hw : IntKind.u64.wrap n = n:=by unfold IntKind.wrap; simp [IntKind.signed,IntKind.bits]; omega
  go_enter Try.func47,Try.ntmps47
  go_wp2_with (go_at_call 57; refine (next_any g _ h).mono ?_; rintro e w1 ⟨⟨y,rfl,hy1,hy2⟩,hfd,hgr⟩)
  go_ret
  have h1:=Int.emod_nonneg (y / 256) (show n ≠ 0 by omega)
  have h2:=Int.emod_lt_of_pos (y / 256) (show 0 < n by omega)
  refine ⟨⟨y / 256 % n,?_,h1,.inl h2⟩,hfd,hgr⟩
  exact ret_int (IntWalk.wrap64_in _ (by omega))
set_option maxHeartbeats 2000000 in
theorem between_any (g : Nat) (lo hi : Int) (w : World) (h : Fd g w) (h1 : -1000000000 ≤ lo) (h2 : lo ≤ 1000000000) (h3 : -1000000000 ≤ hi) (h4 : hi ≤ 1000000000) : Calls Try.prog 49 #[.pointer (some ⟨g,0,none⟩),.int .i64 lo,.int .i64 hi] w fun e w' => (∃ r : Int,e = .returned (.int .i64 r) ∧ lo ≤ r ∧ (r ≤ hi ∨ r = lo)) ∧ Fd g w' ∧ w.grownBy w' (some g):=by
 go_enter Try.func49,Try.ntmps49
 go_wp2_with (go_at_call 47; refine (below_any g _ _ h (by omega) (by omega)).mono ?_; rintro e w1 ⟨⟨y,rfl,hy1,hy2⟩,hfd,hgr⟩)
 go_ret
 refine ⟨⟨lo + y,rfl,by omega,by omega⟩,hfd,hgr⟩
set_option maxHeartbeats 2000000 in
theorem often_any (g : Nat) (n m : Int) (w : World) (h : Fd g w) (h1 : -1000000000 ≤ m) (h2 : m ≤ 1000000000) : Calls Try.prog 37 #[.pointer (some ⟨g,0,none⟩),.int .i64 n,.int .i64 m] w fun e w' => (∃ b : Bool,e = .returned (.bool b)) ∧ Fd g w' ∧ w.grownBy w' (some g):=by
 go_enter Try.func37,Try.ntmps37
 go_wp2_with (go_at_call 47; refine (below_any g _ _ h (by omega) (by omega)).mono ?_; rintro e w1 ⟨⟨y,rfl,hy1,hy2⟩,hfd,hgr⟩)
 go_ret
 exact ⟨⟨_,rfl⟩,hfd,hgr⟩
set_option maxHeartbeats 2000000 in
theorem either_any (g b n : Nat) (cs : Array Value) (P : Int → Prop) (w : World) (h : Fd g w) (hb : Bx w b 3 cs) (hne : b ≠ g) (hn : 1 ≤ n) (hn2 : n ≤ 100) (hcs : ∀ i,i < n → ∃ x,cs[i]? = some (.int .i64 x) ∧ P x) :
  Calls Try.prog 40 #[.pointer (some ⟨g,0,none⟩),.slice (some ⟨b,0,none⟩) n n] w fun e w' => (∃ r : Int,e = .returned (.int .i64 r) ∧ P r) ∧ Fd g w' ∧ w.grownBy w' (some g):=by
 have HCS:=Lib.hid hcs
 clear hcs
 go_enter Try.func40,Try.ntmps40
 go_wp2_with (go_at_call 47; refine (below_any g _ _ h (by omega) (by omega)).mono ?_; rintro e w1 ⟨⟨y,rfl,hy1,hy2⟩,hfd,hgr⟩; obtain ⟨k,rfl⟩:=Int.eq_ofNat_of_zero_le hy1; have hk : k < n:=(by omega); have kb:=hb.grown hgr (by simpa using hne); obtain ⟨x,hx,hp⟩:=HCS.out k hk; have HP:=Lib.hid hp; clear hp; have c0:=(kb.cell k).trans hx; have cf:=kb.free; have cz:=kb.lt; clear hx)
 go_ret
 exact ⟨⟨x,rfl,HP.out⟩,hfd,hgr⟩
end Go.Proofs.Ytgbogdckmfencaa

/-! The ranges of a feed. -/
namespace Go.Proofs.Ytgbogdckmfencaa
open Go.RowKit

theorem bx3 {x y z : Int} (P : Int → Prop) (h1 : P x) (h2 : P y) (h3 : P z) : ∀ i,i < 3 → ∃ q,(#[Value.int .i64 x,.int .i64 y,.int .i64 z] : Array Value)[i]? = some (.int .i64 q) ∧ P q:=by
 intro i hi
 match i,hi with
 | 0,_ => exact ⟨x,rfl,h1⟩
 | 1,_ => exact ⟨y,rfl,h2⟩
 | 2,_ => exact ⟨z,rfl,h3⟩
set_option maxRecDepth 100000 in
set_option maxHeartbeats 2000000 in
theorem range_any (g : Nat) (lo hi : Int) (w : World) (h : Fd g w) (h1 : -1000000 ≤ lo) (h2 : lo ≤ hi) (h3 : hi ≤ 1000000) : Calls Try.prog 27 #[.pointer (some ⟨g,0,none⟩),.int .i64 lo,.int .i64 hi] w fun e w' => (∃ a b : Int,e = .returned (.agg #[.int .i64 a,.int .i64 b]) ∧ lo ≤ a ∧ a ≤ b ∧ b ≤ hi) ∧ Fd g w' ∧ w.grownBy w' (some g):=by
 have hgl:=h.lt
 have HG0:=Lib.hid (h.alloc (.cells #[.int .i64 0,.int .i64 0] 23))
 have GR0:=Lib.hid (grown_alloc (grown_refl w (some g)) (.cells #[.int .i64 0,.int .i64 0] 23))
 have K0:=Lib.hid (Bx.new w 23 #[.int .i64 0,.int .i64 0])
 go_enter Try.func27,Try.ntmps27
 go_wp2_with (first | (go_at_call 49; first | (have _t:=hf2; clear _t; refine (between_any g a hi _ hf2 (by omega) (by omega) (by omega) (by omega)).mono ?_; rintro e w3 ⟨⟨c,rfl,hc1,hc2⟩,hf3,hg3⟩; have gr3:=grown_trans gr2 hg3; have k3:=k2.grown hg3 (by simp; omega)) | (refine (between_any g lo hi _ HG0.out (by omega) (by omega) (by omega) (by omega)).mono ?_; rintro e w1 ⟨⟨a,rfl,ha1,ha2⟩,hf1,hg1⟩; have gr1:=grown_trans GR0.out hg1; have k1:=K0.out.grown hg1 (by simp; omega))) | (go_at_call 47; refine (below_any g _ _ hf1 (by omega) (by omega)).mono ?_; rintro e w2 ⟨⟨d,rfl,hd1,hd2⟩,hf2,hg2⟩; have gr2:=grown_trans gr1 hg2; have k2:=k1.grown hg2 (by simp; omega)) | (go_at_call 40; have hl3:=hf3.lt; refine (either_any g _ 3 _ (fun r => a ≤ r ∧ r ≤ hi) _ (hf3.alloc _) (Bx.new _ _ _) (by omega) (by omega) (by omega) (bx3 _ ⟨by omega,by omega⟩ ⟨by omega,by omega⟩ ⟨by omega,by omega⟩)).mono ?_; rintro e w4 ⟨⟨r,rfl,hr1,hr2⟩,hf4,hg4⟩; have gr4:=grown_trans (grown_alloc gr3 _) hg4; have k4:=(k3.alloc _).grown hg4 (by simp; omega); obtain ⟨c0,c1,cf,cz⟩:=k4.two))
 all_goals refine bodyPost_ret (v:=.agg #[.int .i64 a,.int .i64 r]) (by simp [results,Try.results27,go_sem,c0,c1,World.cell?_setCell_same',World.cell?_setCell_other]) rfl ⟨⟨a,r,rfl,by omega,by omega,by omega⟩,(hf4.far (by simp; omega) _).far (by simp; omega) _,grown_new (grown_new gr4 (by omega) _) (by omega) _⟩
set_option maxHeartbeats 2000000 in
theorem either2_any (g : Nat) (a b c d : Int) (w : World) (h : Fd g w) : Calls Try.prog 55 #[.pointer (some ⟨g,0,none⟩),.agg #[.int .i64 a,.int .i64 b],.agg #[.int .i64 c,.int .i64 d]] w fun e w' => (e = .returned (.agg #[.int .i64 a,.int .i64 b]) ∨ e = .returned (.agg #[.int .i64 c,.int .i64 d])) ∧ Fd g w' ∧ w.grownBy w' (some g):=by
 have hgl:=h.lt
 have HG0:=Lib.hid (((h.alloc (.cells #[.int .i64 a,.int .i64 b] 23)).alloc (.cells #[.int .i64 c,.int .i64 d] 23)).alloc (.cells #[.int .i64 0,.int .i64 0] 23))
 have GR0:=Lib.hid (grown_alloc (grown_alloc (grown_alloc (grown_refl w (some g)) (.cells #[.int .i64 a,.int .i64 b] 23)) (.cells #[.int .i64 c,.int .i64 d] 23)) (.cells #[.int .i64 0,.int .i64 0] 23))
 have KA:=Lib.hid (((Bx.new w 23 #[.int .i64 a,.int .i64 b]).alloc (.cells #[.int .i64 c,.int .i64 d] 23)).alloc (.cells #[.int .i64 0,.int .i64 0] 23))
 have KB:=Lib.hid ((Bx.at (w.alloc (.cells #[.int .i64 a,.int .i64 b] 23)) 23 #[.int .i64 c,.int .i64 d] (n:=w.heap.size + 1) (by simp)).alloc (.cells #[.int .i64 0,.int .i64 0] 23))
 have KC:=Lib.hid (Bx.at ((w.alloc (.cells #[.int .i64 a,.int .i64 b] 23)).alloc (.cells #[.int .i64 c,.int .i64 d] 23)) 23 #[.int .i64 0,.int .i64 0] (n:=w.heap.size + 1 + 1) (by simp))
 go_enter Try.func55,Try.ntmps55
 go_wp2_with (go_at_call 37; refine (often_any g _ _ _ HG0.out (by omega) (by omega)).mono ?_; rintro e w1 ⟨⟨q,rfl⟩,hf1,hg1⟩; have gr1:=grown_trans GR0.out hg1; have ka:=KA.out.grown hg1 (by simp; omega); have kb:=KB.out.grown hg1 (by simp; omega); have kc:=KC.out.grown hg1 (by simp; omega); obtain ⟨a0,a1,af,az⟩:=ka.two; obtain ⟨b0,b1,bf,bz⟩:=kb.two; obtain ⟨c0,c1,cf,cz⟩:=kc.two)
 ·refine bodyPost_ret (v:=.agg #[.int .i64 a,.int .i64 b]) (by simp [results,Try.results55,go_sem,c0,c1,World.cell?_setCell_same',World.cell?_setCell_other]) rfl ⟨.inl rfl,(hf1.far (by simp; omega) _).far (by simp; omega) _,grown_new (grown_new gr1 (by omega) _) (by omega) _⟩
 ·refine bodyPost_ret (v:=.agg #[.int .i64 c,.int .i64 d]) (by simp [results,Try.results55,go_sem,c0,c1,World.cell?_setCell_same',World.cell?_setCell_other]) rfl ⟨.inr rfl,(hf1.far (by simp; omega) _).far (by simp; omega) _,grown_new (grown_new gr1 (by omega) _) (by omega) _⟩
end Go.Proofs.Ytgbogdckmfencaa
