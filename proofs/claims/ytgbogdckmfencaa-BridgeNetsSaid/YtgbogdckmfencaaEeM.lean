/- Rows of rows of Booleans: what the reference knows; may, none. -/
import Derived.Test.YtgbogdckmfencaaRg
import Derived.Test.YtgbogdckmfencaaWi
import Derived.Test.YtgbogdckmfencaaMa
import Derived.Test.YtgbogdckmfencaaMo
set_option linter.unusedSimpArgs false
set_option linter.unusedVariables false
namespace Go.Proofs.Ytgbogdckmfencaa
open Go Go.RowKit
/-- The cells of 401 Booleans. -/
def barr (g : Nat → Bool) : Array Value:=Array.ofFn (n:=401) fun j => .bool (g j.val)
theorem barr_get (g : Nat → Bool) {i : Nat} (hi : i < 401) : (barr g)[i]? = some (.bool (g i)):=by
 unfold barr; rw [Array.getElem?_ofFn,dif_pos hi]
theorem barr_set (g : Nat → Bool) {i : Nat} (a : Bool) : (barr g).setIfInBounds i (.bool a) = barr (fun k => if k = i then a else g k):=by
 apply Array.ext
 ·simp [barr]
 ·intro j h1 h2
  have hj : j < 401:=by simpa [barr] using h2
  rw [Array.getElem_setIfInBounds (by simpa [barr] using hj)]
  by_cases e : i = j
  ·subst e; simp [barr]
  ·rw [if_neg e]; simp [barr,Ne.symm e]
theorem barr_made : madeCells #[.bool false] (401 * 1) = barr fun _ => false:=by
 apply Array.ext
 ·simp [madeCells,barr]
 ·intro j h1 h2
  have : j % 1 = 0:=by omega
  simp only [madeCells,barr,Array.getElem_map,Array.getElem_range,Array.getElem_ofFn]
  simp [this]
attribute [irreducible] barr
theorem info4 : (Try.prog.info? 4).map (fun i => (i.zero,i.size,i.bytes)) = some (some (.bool false),1,1):=by kernel_rfl
theorem info126 : (Try.prog.info? 126).map (fun i => (i.zero,i.size,i.bytes)) = some (some (.slice none 0 0),1,24):=by kernel_rfl
theorem make_bools (w : World) : (Instr.makeSlice 126 (.int .i64 401) (.int .i64 401)).run Try.prog w = .ok (.slice (some ⟨w.heap.size,0,none⟩) 401 401) (w.alloc (.cells (barr fun _ => false) 4)):=by
 obtain ⟨i0,hi,hz0,hz1,hz2⟩:=info_parts info4
 have h:=run_make_n (P:=Try.prog) 126 4 i0 _ Try.underlying126 hi hz0 401 (by rw [hz2]; omega) (by omega) w
 rw [show ((401 : Nat) : Int) = 401 from rfl] at h
 rw [h]
 have e : madeCells (Value.cells (.bool false)) (401 * i0.size) = barr fun _ => false:=by rw [hz1]; exact barr_made
 rw [e]
/-- Which zeros events may have, in memory. -/
structure Grid (w : World) (b : Nat) (FA : Option Addr) (n : Nat) (q : Nat → Nat) (f : Nat → Nat → Bool) : Prop where
 out : 0 < n → ∃ o cur,FA = some ⟨o,0,none⟩ ∧ b ≤ o ∧ Bx w o 126 cur ∧ ∀ i,i < n → cur[i]? = some (.slice (some ⟨q i,0,none⟩) 401 401)
 rows : ∀ i,i < n → b ≤ q i ∧ Bx w (q i) 4 (barr (f i))
 inj : ∀ i j,i < n → j < n → q i = q j → i = j
section
variable {w x : World} {b n : Nat} {FA : Option Addr} {q : Nat → Nat} {f : Nat → Nat → Bool}
theorem Grid.bel (h : Grid w b FA n q f) (hb : Below w.heap.size w x) : Grid x b FA n q f:=by
 refine ⟨fun h0 => ?_,fun i hi => ⟨(h.rows i hi).1,(h.rows i hi).2.call hb⟩,h.inj⟩
 obtain ⟨o,cur,h1,h2,h3,h4⟩:=h.out h0
 exact ⟨o,cur,h1,h2,h3.call hb,h4⟩
theorem Grid.alloc (h : Grid w b FA n q f) (o : Obj) : Grid (w.alloc o) b FA n q f:=h.bel ((Below.refl _ _).alloc (Nat.le_refl _) o)
/-- A cell of a box of another type is stored. -/
theorem Grid.far (h : Grid w b FA n q f) {r t : Nat} {cs : Array Value} (k : Bx w r t cs) (h1 : t ≠ 126) (h2 : t ≠ 4) (j : Nat) (u : Value) : Grid (w.setCell ⟨r,j,none⟩ u) b FA n q f:=by
 refine ⟨fun h0 => ?_,fun i hi => ⟨(h.rows i hi).1,(h.rows i hi).2.far (fun e => (h.rows i hi).2.ne k (Ne.symm h2) e) u⟩,h.inj⟩
 obtain ⟨o,cur,e1,e2,e3,e4⟩:=h.out h0
 exact ⟨o,cur,e1,e2,e3.far (fun e => e3.ne k (Ne.symm h1) e) u,e4⟩
/-- One of them is stored. -/
theorem Grid.put (h : Grid w b FA n q f) {i p : Nat} (hi : i < n) (a : Bool) : Grid (w.setCell ⟨q i,p,none⟩ (.bool a)) b FA n q (fun k j => if k = i ∧ j = p then a else f k j):=by
 refine ⟨fun h0 => ?_,fun k hk => ⟨(h.rows k hk).1,?_⟩,h.inj⟩
 ·obtain ⟨o,cur,e1,e2,e3,e4⟩:=h.out h0
  exact ⟨o,cur,e1,e2,e3.far (fun e => e3.ne (h.rows i hi).2 (by decide) e) _,e4⟩
 ·by_cases e : k = i
  ·subst e
   have:=(h.rows k hk).2.set_ p (.bool a)
   rw [barr_set] at this
   simpa using this
  ·have:=(h.rows k hk).2.far (p:=⟨q i,p,none⟩) (fun e2 => e (h.inj _ _ hk hi e2)) (.bool a)
   simpa [e] using this
/-- The cells that are read for an event. -/
theorem Grid.at_ (h : Grid w b FA n q f) {i : Nat} (hi : i < n) : ∃ o,FA = some ⟨o,0,none⟩ ∧ o < w.heap.size ∧ w.cell? ⟨o,i,none⟩ = some (.slice (some ⟨q i,0,none⟩) 401 401) ∧ (∀ p,p < 401 → w.cell? ⟨q i,p,none⟩ = some (.bool (f i p))) ∧ (∀ p,w.frozen? ⟨q i,p,none⟩ = false) ∧ q i < w.heap.size:=by
 obtain ⟨o,cur,e1,e2,e3,e4⟩:=h.out (by omega)
 refine ⟨o,e1,e3.lt,?_,fun p hp => ?_,(h.rows i hi).2.free,(h.rows i hi).2.lt⟩
 ·rw [e3.cell,e4 i hi]
 ·rw [(h.rows i hi).2.cell,barr_get _ hp]
end
/-- Whether an event may have a zero. -/
def mayB (f : Nat → Nat → Bool) (i : Nat) (z : Int) : Bool:=btwB z (-200) 200 && f i (z + 200).toNat
set_option maxRecDepth 100000 in
set_option maxHeartbeats 2000000 in
theorem may_any (b : Nat) (FA : Option Addr) (n FC : Nat) (q : Nat → Nat) (f : Nat → Nat → Bool) (i : Nat) (z : Int) (w : World) (hG : Grid w b FA n q f) (hn : n ≤ 14) (hi : i < n) (hz1 : -1000 ≤ z) (hz2 : z ≤ 1000) :
  Calls Try.prog 85 #[.agg #[.slice FA n FC],.int .i64 (i : Int),.int .i64 z] w fun e w' => e = .returned (.bool (mayB f i z)) ∧ Below w.heap.size w w':=by
 obtain ⟨o,rfl,ho,c0,c1,cf,hq⟩:=(hG.alloc (.cells #[.slice FA n FC] 96)).at_ hi
 have k0:=Bx.new w 96 #[.slice (some ⟨o,0,none⟩) n FC]
 obtain ⟨x0,_,xz⟩:=k0.one
 by_cases hz : -200 ≤ z ∧ z ≤ 200
 ·have e1:=btw_t hz
  obtain ⟨p,hp⟩ : ∃ p : Nat,z + 200 = p:=⟨(z + 200).toNat,by omega⟩
  have hp4 : p < 401:=by omega
  have hm : mayB f i z = f i p:=by unfold mayB; rw [e1,Bool.true_and,show (z + 200).toNat = p by omega]
  have c2:=c1 p hp4
  rw [hm]
  obtain ⟨r,hr⟩ : ∃ r,f i p = r:=⟨_,rfl⟩
  rw [hr] at c2 ⊢
  have hzp : z = (p : Int) - 200:=by omega
  have hw : IntKind.i64.wrap ((p : Int) - 200 + 200) = p:=by rw [show (p : Int) - 200 + 200 = p by omega]; exact IntWalk.i64_in _ (by omega)
  have hw2 : (p : Int) - 200 + 200 = p:=by omega
  subst hzp
  clear hp hm c1 hr hG hz
  go_enter Try.func85,Try.ntmps85
  go_wp2_with (first | (go_at_call 64; refine (between_b _ _ _ _).mono ?_; rintro e w1 ⟨rfl,rfl⟩) | fail)
  all_goals go_ret
  all_goals exact ⟨rfl,(Below.refl _ _).alloc (Nat.le_refl _) _⟩
 ·have e1:=btw_f hz
  have hm : mayB f i z = false:=by unfold mayB; rw [e1]; rfl
  rw [hm]
  clear hm c1 hG hz
  go_enter Try.func85,Try.ntmps85
  go_wp2_with (first | (go_at_call 64; refine (between_b _ _ _ _).mono ?_; rintro e w1 ⟨rfl,rfl⟩) | fail)
  all_goals go_ret
  all_goals exact ⟨rfl,(Below.refl _ _).alloc (Nat.le_refl _) _⟩
end Go.Proofs.Ytgbogdckmfencaa

/-! none: what the reference knows at first. -/
namespace Go.Proofs.Ytgbogdckmfencaa
open Go Go.RowKit
def rowsOf (q : Nat → Nat) (i : Nat) : List Value:=(List.range i).map fun j => Value.slice (some ⟨q j,0,none⟩) 401 401
theorem rowsOf_succ (q : Nat → Nat) (i p : Nat) : rowsOf (fun k => if k = i then p else q k) (i + 1) = rowsOf q i ++ [Value.slice (some ⟨p,0,none⟩) 401 401]:=by
 unfold rowsOf
 rw [List.range_succ,List.map_append,List.map_singleton]
 congr 1
 ·refine List.map_congr_left fun j hj => ?_
  rw [List.mem_range] at hj
  show Value.slice (some ⟨if j = i then p else q j,0,none⟩) 401 401 = _
  rw [if_neg (by omega)]
 ·simp
/-- Between two rounds of none's loop. -/
structure NI (w : World) (i : Nat) (FA : Option Addr) (FC : Nat) (q : Nat → Nat) (wr : World) : Prop where
 kK : Bx wr (w.heap.size + 1) 96 #[.slice FA i FC]
 k0 : Bx wr w.heap.size 96 #[.slice none 0 0]
 own : wr.ownsRow w.heap.size 126 1 (.slice FA i FC) i (rowsOf q i)
 rows : ∀ j,j < i → w.heap.size ≤ q j ∧ Bx wr (q j) 4 (barr fun _ => false)
 inj : ∀ j k,j < i → k < i → q j = q k → j = k
 hb : Below w.heap.size w wr
section
variable {w wr x : World} {i : Nat} {FA : Option Addr} {FC : Nat} {q : Nat → Nat}
theorem NI.bel (I : NI w i FA FC q wr) (h : Below wr.heap.size wr x) : NI w i FA FC q x :=
 ⟨I.kK.call h,I.k0.call h,own_bel I.own h,fun j hj => ⟨(I.rows j hj).1,(I.rows j hj).2.call h⟩,I.inj,I.hb.trans (h.mono I.hb.size)⟩
theorem NI.gr (I : NI w i FA FC q wr) (g : wr.grownBy x (Value.slice FA i FC).ownBlock) (o : x.ownsRow w.heap.size 126 1 (.slice FA i FC) i (rowsOf q i)) : NI w i FA FC q x :=
 ⟨I.kK.grown g (own_bx I.own I.kK (by decide)),I.k0.grown g (own_bx I.own I.k0 (by decide)),o,fun j hj => ⟨(I.rows j hj).1,(I.rows j hj).2.grown g (own_bx I.own (I.rows j hj).2 (by decide))⟩,I.inj,I.hb.grown g I.hb.size (fun k hk => (I.own.lt k hk).1)⟩
theorem NI.put {A2 : Option Addr} {C2 p : Nat} (I : NI w i FA FC q wr) (o : wr.ownsRow w.heap.size 126 1 (.slice A2 (i + 1) C2) (i + 1) (rowsOf q i ++ [.slice (some ⟨p,0,none⟩) 401 401])) (kp : Bx wr p 4 (barr fun _ => false)) (hp : w.heap.size ≤ p) (hq : ∀ j,j < i → q j ≠ p) :
  NI w (i + 1) A2 C2 (fun k => if k = i then p else q k) (wr.setCell ⟨w.heap.size + 1,0,none⟩ (.slice A2 (i + 1) C2)):=by
 refine ⟨by have:=I.kK.set_ 0 (.slice A2 (i + 1) C2); simpa using this,I.k0.far (by simp) _,by rw [rowsOf_succ]; exact own_set o (own_bx o I.kK (by decide)) _,fun j hj => ?_,fun j k hj hk e => ?_,I.hb.setCell (by simp) _⟩
 ·by_cases e : j = i
  ·rw [if_pos e]; exact ⟨hp,kp.far (fun e => kp.ne I.kK (by decide) e) _⟩
  ·rw [if_neg e]; exact ⟨(I.rows j (by omega)).1,(I.rows j (by omega)).2.far (fun e => (I.rows j (by omega)).2.ne I.kK (by decide) e) _⟩
 ·try dsimp only at e
  by_cases e1 : j = i
  ·by_cases e2 : k = i
   ·omega
   ·rw [if_pos e1,if_neg e2] at e; exact absurd e.symm (hq k (by omega))
  ·by_cases e2 : k = i
   ·rw [if_neg e1,if_pos e2] at e; exact absurd e (hq j (by omega))
   ·rw [if_neg e1,if_neg e2] at e; exact I.inj j k (by omega) (by omega) e
theorem NI.grid (I : NI w i FA FC q wr) : Grid wr w.heap.size FA i q (fun _ _ => false):=by
 refine ⟨fun h0 => ?_,I.rows,I.inj⟩
 rcases I.own.2 with ⟨h,h1⟩ | ⟨g,cap,cur,h,hb,hg,hc,hm,hs,ht⟩
 ·omega
 ·simp only [Value.slice.injEq] at h
  refine ⟨g,cur,h.1,hb,hg,fun j hj => ?_⟩
  have h1 : (rowsOf q i)[j]? = some (.slice (some ⟨q j,0,none⟩) 401 401):=by
   unfold rowsOf
   rw [List.getElem?_map,List.getElem?_range hj]
   rfl
  rw [← ht,List.getElem?_take,if_pos (by omega)] at h1
  rw [← Array.getElem?_toList]
  exact h1
end
set_option maxRecDepth 100000 in
set_option maxHeartbeats 4000000 in
theorem none_any (n : Nat) (w : World) (hn : n ≤ 14) : Calls Try.prog 89 #[.int .i64 (n : Int)] w fun e w' => (∃ (FA : Option Addr) (FC : Nat) (q : Nat → Nat),e = .returned (.agg #[.slice FA n FC]) ∧ Grid w' w.heap.size FA n q (fun _ _ => false)) ∧ Below w.heap.size w w':=by
 obtain ⟨i3,hi3,hz3,hs3,iy3⟩:=info_parts info126
 have I0 : NI w 0 none 0 (fun _ => 0) ((w.alloc (.cells #[.slice none 0 0] 96)).alloc (.cells #[.slice none 0 0] 96)):=⟨Bx.at _ _ _ (by simp),(Bx.new w 96 _).alloc _,World.ownsRow_nil _ _ _ _,fun j hj => by omega,fun j k hj => by omega,((Below.refl _ _).alloc (Nat.le_refl _) _).alloc (by simp) _⟩
 have H0:=Lib.hid I0
 clear I0
 go_enter Try.func89,Try.ntmps89
 go_wp2_with fail
 go_loopw [4] (fun v4 wr => ∃ (i : Nat) (FA : Option Addr) (FC : Nat) (q : Nat → Nat),i ≤ n ∧ v4 = .int .i64 i ∧ NI w i FA FC q wr) (fun v4 _ => n - (intOf v4).toNat)
 case atStart => exact ⟨0,none,0,_,by omega,rfl,H0.out⟩
 case round =>
  clear H0
  obtain ⟨i,FA,FC,q,hi,rfl,I⟩:=hrel
  by_cases hin : i < n
  ·go_upto_region 5 with fail
   refine AnyG.startC (by kernel_rfl) ?_
   refine AnyG.takeP (i:=0) (v:=?_) rfl (by kernel_rfl) (fun _ _ _ h => h) rfl ?_ ?_
   rotate_left
   ·(intro w'; go_simp; try with_reducible rfl)
   try simp only [Act.put,Sp1,Sp2,Sp3,Sp4,Sp5,Sp6]
   refine AnyG.enter (fun w' : World => NI w i FA FC q w' ∧ wr.heap.size ≤ w'.heap.size) (fun i => i != 6) ?_
   have hS : (fun w' : World => NI w i FA FC q w' ∧ wr.heap.size ≤ w'.heap.size) (wr.drew):=⟨I.bel (Below.refl _ _).drew,by simp⟩
   try dsimp only at hS
   obtain ⟨y0,hy0⟩ : ∃ y,wr.drew = y:=⟨_,rfl⟩
   rw [hy0] at hS ⊢
   clear hy0
   refine AnyG.takeC (i:=1) (v:=?_) rfl (by kernel_rfl) (fun _ _ _ h => h) rfl ?_ hS ?_
   rotate_left
   ·(intro w' hSw; (try dsimp only at hSw); obtain ⟨a0,af,az⟩:=hSw.1.kK.one; go_simp; try with_reducible rfl)
   try simp only [Act.put,Sp1,Sp2,Sp3,Sp4,Sp5,Sp6]
   refine AnyG.one (i:=2) (by kernel_rfl) rfl rfl ?_
   have hmk:=make_bools y0
   go_simp
   clear hmk
   have kp:=Bx.new y0 4 (barr fun _ => false)
   have hI2:=hS.1.bel ((Below.refl _ y0).alloc (Nat.le_refl _) (.cells (barr fun _ => false) 4))
   have hp : w.heap.size ≤ y0.heap.size:=hS.1.hb.size
   have hqp : ∀ j,j < i → q j ≠ y0.heap.size:=fun j hj e => by have:=(hS.1.rows j hj).2.lt; omega
   obtain ⟨y2,hy2⟩ : ∃ y,y0.alloc (.cells (barr fun _ => false) 4) = y:=⟨_,rfl⟩
   have hs2 : wr.heap.size ≤ y2.heap.size:=by rw [← hy2]; simp; have:=hS.2; omega
   rw [hy2] at kp hI2 ⊢
   clear hy2
   obtain ⟨p,ep⟩ : ∃ p,y0.heap.size = p:=⟨_,rfl⟩
   rw [ep] at kp hp hqp ⊢
   clear ep
   have hSn:=And.intro hI2 hs2
   clear hS
   refine Onward.on hSn (fun hS => ?_)
   try dsimp only at hS
   clear hSn
   try simp only [Act.put,Sp1,Sp2,Sp3,Sp4,Sp5,Sp6]
   refine AnyG.one (i:=3) (by kernel_rfl) rfl rfl ?_
   clear hI2 hs2
   go_simp
   have kc:=Bx.new y2 126 #[.slice (some ⟨p,0,none⟩) 401 401]
   have hI3:=hS.1.bel ((Below.refl _ y2).alloc (Nat.le_refl _) (.cells #[.slice (some ⟨p,0,none⟩) 401 401] 126))
   replace kp:=kp.alloc (.cells #[.slice (some ⟨p,0,none⟩) 401 401] 126)
   obtain ⟨y3,hy3⟩ : ∃ y,y2.alloc (.cells #[.slice (some ⟨p,0,none⟩) 401 401] 126) = y:=⟨_,rfl⟩
   have hs3 : wr.heap.size ≤ y3.heap.size:=by rw [← hy3]; simp; have:=hS.2; omega
   rw [hy3] at kp kc hI3 ⊢
   clear hy3
   obtain ⟨c1,ec⟩ : ∃ p,y2.heap.size = p:=⟨_,rfl⟩
   rw [ec] at kc ⊢
   clear ec
   have hSn:=And.intro hI3 hs3
   clear hS
   refine Onward.on hSn (fun hS => ?_)
   try dsimp only at hS
   clear hSn
   try simp only [Act.put,Sp1,Sp2,Sp3,Sp4,Sp5,Sp6]
   refine AnyG.one (i:=4) (by kernel_rfl) rfl rfl ?_
   clear hI3 hs3
   refine wp_app2 (.tmp 11) (.tmp 13) 94 rfl w.heap.size 126 i3 _ 1 24 Try.underlying94 hi3 hz3 hs3 iy3 rfl (by decide) (.slice FA i FC) i (rowsOf q i) (by simp [Act.eval]) hS.1.own ⟨c1,0,none⟩ 1 1 [.slice (some ⟨p,0,none⟩) 401 401] (by simp [Act.eval]) rfl (bx_news kc) (by simp [Value.oneCell']) (by unfold maxLen; omega) (by omega) hS.1.hb.size ?_
   intro v4 y4 o4 g4 x4 r4
   obtain ⟨A2,C2,rfl⟩:=own_shape o4
   have kp4:=kp.grown g4 (own_bx hS.1.own kp (by decide))
   have hI4:=hS.1.gr g4 x4
   have hs4:=Nat.le_trans hS.2 g4.size
   clear kp x4 r4 kc
   have hSn:=And.intro hI4 hs4
   clear hS
   refine Onward.on hSn (fun hS => ?_)
   try dsimp only at hS
   clear hSn
   try simp only [Act.put,Sp1,Sp2,Sp3,Sp4,Sp5,Sp6]
   refine AnyG.takeC (i:=5) (v:=?_) rfl (by kernel_rfl) (fun _ _ _ h => h) rfl ?_ hS ?_
   rotate_left
   ·(intro w' hSw; (try dsimp only at hSw); go_simp; try with_reducible rfl)
   try simp only [Act.put,Sp1,Sp2,Sp3,Sp4,Sp5,Sp6]
   refine AnyG.one (i:=6) (by kernel_rfl) rfl rfl ?_
   obtain ⟨a0,af,az⟩:=hS.1.kK.one
   go_simp
   have hI6:=hS.1.put o4 kp4 hp hqp
   refine Onward.last rfl ?_
   try simp only [Act.put,Sp1,Sp2,Sp3,Sp4,Sp5,Sp6]
   refine AnyG.done (by kernel_rfl) ?_ _
   go_simp
   clear a0 af az
   go_wp2_with fail
   go_roundw
   case rel => exact ⟨i + 1,A2,C2,_,by omega,by go_num,hI6⟩
   case measure => simp [intOf]; omega
  ·obtain rfl : i = n:=by omega
   obtain ⟨a0,af,az⟩:=I.kK.one
   obtain ⟨b0,bf,bz⟩:=I.k0.one
   go_wp2_with fail
   have hB:=I.hb.setCell (p:=⟨w.heap.size,0,none⟩) (Nat.le_refl _) (.slice FA i FC)
   have kz : Bx (wr.setCell ⟨w.heap.size,0,none⟩ (.slice FA i FC)) w.heap.size 96 #[.slice FA i FC]:=by have:=I.k0.set_ 0 (.slice FA i FC); simpa using this
   obtain ⟨e0,ef,ez⟩:=kz.one
   refine bodyPost_ret (v:=.agg #[.slice FA i FC]) (by simp [results,Try.results89,go_sem,e0]) rfl ⟨⟨FA,FC,q,rfl,I.grid.far I.k0 (by decide) (by decide) 0 _⟩,hB⟩
end Go.Proofs.Ytgbogdckmfencaa

/-! Facts of small logs: all of them are gone through. Nothing of the program. -/
namespace Go.Proofs.Ytgbogdckmfencaa
theorem rng_of {st : Int} {e : Ev} {z : Int} (ho : EvOk e) (h1 : 1 ≤ st) (h : sLo st e ≤ z ∧ z ≤ sHi st e) : (ldRng st e z).1 ≤ (ldRng st e z).2 ∧ -200 ≤ z ∧ z ≤ 200:=by
 obtain ⟨kd,_,_,l1,l2,l3,_,_,_⟩:=ho
 unfold sLo sHi ldLo ldHi at h
 unfold ldRng ldLo ldHi
 dsimp only
 rcases kd with k | k | k <;> rw [k] at h ⊢ <;> simp at h ⊢ <;> omega
theorem of_rng {st : Int} {e : Ev} {z n : Int} (ho : EvOk e) (h : (ldRng st e z).1 ≤ n ∧ n ≤ (ldRng st e z).2) (hz1 : -200 ≤ z) (hz2 : z ≤ 200) : sLo st e ≤ z ∧ z ≤ sHi st e:=by
 obtain ⟨kd,_,_,l1,l2,l3,_,_,_⟩:=ho
 unfold ldRng ldLo ldHi at h
 dsimp only at h
 unfold sLo sHi ldLo ldHi
 rcases kd with k | k | k <;> rw [k] at h ⊢ <;> simp at h ⊢ <;> omega
section
variable {st z0 z1 most : Int} {es : List Ev} (h1 : 1 ≤ st) (hm : ∀ e ∈ es,e.sh.tmod st = 0) (ho : ∀ e ∈ es,EvOk e) (hmost : most ≤ 60000)
include h1 hm ho hmost
end
end Go.Proofs.Ytgbogdckmfencaa
namespace Go.Proofs.Ytgbogdckmfencaa
/-- An event of a small log, under a load and with a zero that it was made with. -/
structure EvTiny (st : Int) (e : Ev) (z n : Int) : Prop where
 kd : e.kd = 1 ∨ e.kd = 2 ∨ e.kd = 3
 c0 : -1 ≤ e.c0
 c1 : e.c0 ≤ e.c1
 c2 : e.c1 ≤ 1
 n0 : 0 ≤ n
 n1 : n ≤ 11
 k1 : e.kd = 1 → n = 0
 ld_ : e.ld = if e.kd = 2 then n else 0
 md : e.sh.tmod st = 0
 s0 : n + z + st / 2 - 2 * st < e.sh
 s1 : e.sh ≤ n + z + st / 2 + 2 * st
/-- A small log: the events with the zeros that they were made with. -/
inductive Tiny (st z0 z1 : Int) : List (Ev × Int) → Int → Prop
 | nil (z : Int) (h1 : z0 ≤ z) (h2 : z ≤ z1) : Tiny st z0 z1 [] z
 | snoc (ts : List (Ev × Int)) (z : Int) (e : Ev) (z' n : Int) (h : Tiny st z0 z1 ts z) (he : EvTiny st e z' n) (h1 : z + e.c0 ≤ z') (h2 : z' ≤ z + e.c1) : Tiny st z0 z1 (ts ++ [(e,z')]) z'
theorem Tiny.bd {st z0 z1 : Int} {ts : List (Ev × Int)} {z : Int} (h : Tiny st z0 z1 ts z) (h0 : -2 ≤ z0) (h1 : z1 ≤ 3) : -2 - (ts.length : Int) ≤ z ∧ z ≤ 3 + (ts.length : Int):=by
 induction h with
 | nil z a b => simp; omega
 | snoc ts z e z' n h he a b ih =>
  have:=he.c0; have:=he.c2
  rw [List.length_append,List.length_singleton]
  push_cast
  omega
theorem Tiny.all {st z0 z1 : Int} {ts : List (Ev × Int)} {z : Int} (h : Tiny st z0 z1 ts z) (h0 : -2 ≤ z0) (h1 : z1 ≤ 3) (hn : ts.length ≤ 4) : ∀ (i : Nat) (p : Ev × Int),ts[i]? = some p → ∃ n,EvTiny st p.1 p.2 n ∧ -6 ≤ p.2 ∧ p.2 ≤ 7:=by
 induction h with
 | nil z a b => intro i p hp; simp at hp
 | snoc ts z e z' n h he a b ih =>
  intro i p hp
  rw [List.length_append,List.length_singleton] at hn
  have hb:=h.bd h0 h1
  have:=he.c0; have:=he.c2; have:=he.c1
  by_cases hi : i < ts.length
  ·rw [List.getElem?_append_left hi] at hp
   exact ih (by omega) i p hp
  ·rw [List.getElem?_append_right (by omega)] at hp
   have : i - ts.length = 0:=by
    rcases Nat.eq_zero_or_pos (i - ts.length) with h | h
    ·exact h
    ·rw [List.getElem?_eq_none (by simp; omega)] at hp; cases hp
   rw [this] at hp
   simp only [List.getElem?_cons_zero,Option.some.injEq] at hp
   subst hp
   exact ⟨n,he,by omega,by omega⟩
/-- Zeros of truths are near those that the log was made with. -/
theorem Tiny.near {st z0 z1 : Int} {ts : List (Ev × Int)} {z : Int} (h : Tiny st z0 z1 ts z) (hw : z1 ≤ z0 + 3) {es : List Ev} (he : es = ts.map (·.1)) {y : Nat → Int} (hy : FPath st z0 z1 es y) :
  (∀ (i : Nat) (p : Ev × Int),ts[i]? = some p → p.2 - y i ≤ 5 + 2 * (i : Int)) ∧ (ts = [] → z - z0 ≤ 3) ∧ (∀ i,i + 1 = ts.length → z - y i ≤ 5 + 2 * (i : Int)):=by
 subst he
 induction h with
 | nil z a b => exact ⟨fun i p hp => by simp at hp,fun _ => by omega,fun i hi => by simp at hi⟩
 | snoc ts z e z' n h he a b ih =>
  have hlen : (List.map (·.1) (ts ++ [(e,z')])) = ts.map (·.1) ++ [e]:=by simp
  rw [hlen] at hy
  have hpre : FPath st z0 z1 (ts.map (·.1)) y:=⟨fun x hx => hy.first x (by rw [List.getElem?_append_left (List.getElem?_eq_some_iff.1 hx).1]; exact hx),fun i x hx => hy.next i x (by rw [List.getElem?_append_left (List.getElem?_eq_some_iff.1 hx).1]; exact hx),fun i x hx => hy.at_ i x (by rw [List.getElem?_append_left (List.getElem?_eq_some_iff.1 hx).1]; exact hx)⟩
  obtain ⟨i1,i2,i3⟩:=ih hpre
  have c0:=he.c0; have c1:=he.c1; have c2:=he.c2
  have hlast : (ts.map (·.1) ++ [e])[ts.length]? = some e:=by
   rw [List.getElem?_append_right (by simp)]; simp
  have key : z' - y ts.length ≤ 5 + 2 * (ts.length : Int):=by
   by_cases h0 : ts = []
   ·subst h0
    have q:=hy.first e (by simp)
    have:=i2 rfl
    simp only [List.length_nil] at *
    omega
   ·obtain ⟨j,hj⟩ : ∃ j,ts.length = j + 1:=⟨ts.length - 1,by have:=List.length_pos_iff.2 h0; omega⟩
    have q:=hy.next j e (by rw [← hj]; exact hlast)
    have:=i3 j hj.symm
    rw [hj]
    push_cast
    omega
  refine ⟨fun i p hp => ?_,fun h => by simp at h,fun i hi => ?_⟩
  ·by_cases hi : i < ts.length
   ·rw [List.getElem?_append_left hi] at hp
    exact i1 i p hp
   ·rw [List.getElem?_append_right (by omega)] at hp
    have h0 : i - ts.length = 0:=by
     rcases Nat.eq_zero_or_pos (i - ts.length) with h | h
     ·exact h
     ·rw [List.getElem?_eq_none (by simp; omega)] at hp; cases hp
    rw [h0] at hp
    simp only [List.getElem?_cons_zero,Option.some.injEq] at hp
    subst hp
    obtain rfl : i = ts.length:=by omega
    exact key
  ·rw [List.length_append,List.length_singleton] at hi
   obtain rfl : i = ts.length:=by omega
   exact key
/-- Loads of truths of small logs are small. -/
theorem Tiny.most {st z0 z1 : Int} {ts : List (Ev × Int)} {z : Int} (h : Tiny st z0 z1 ts z) (hs : 1 ≤ st) (hs3 : st ≤ 3) (h0 : -2 ≤ z0) (h1 : z1 ≤ 3) (hw : z1 ≤ z0 + 3) (hn : ts.length ≤ 4) {es : List Ev} (he : es = ts.map (·.1)) {y : Nat → Int} (hy : FPath st z0 z1 es y) : ∀ i e,es[i]? = some e → (ldRng st e (y i)).2 ≤ 30:=by
 intro i e hie
 have hnear:=(h.near hw he hy).1
 subst he
 rw [List.getElem?_map] at hie
 cases hp : ts[i]? with
 | none => rw [hp] at hie; cases hie
 | some p =>
  rw [hp] at hie
  simp only [Option.map_some,Option.some.injEq] at hie
  subst hie
  have hi:=(List.getElem?_eq_some_iff.1 hp).1
  obtain ⟨n,ht,_,_⟩:=h.all h0 h1 hn i p hp
  have a:=hnear i p hp
  have:=ht.s1
  have:=ht.n1
  unfold ldRng
  dsimp only
  omega
theorem EvTiny.ok {st : Int} {e : Ev} {z n : Int} (h : EvTiny st e z n) (hs : 1 ≤ st) (hs3 : st ≤ 3) (hz : -6 ≤ z) (hz2 : z ≤ 7) : EvOk e:=by
 obtain ⟨kd,c0,c1,c2,n0,n1,k1,hld,md,s0,s1⟩:=h
 refine ⟨kd,by omega,by omega,?_,?_,?_,by omega,c1,by omega⟩
 ·rw [hld]; split <;> omega
 ·rw [hld]; split <;> omega
 ·intro hne
  rw [hld] at hne
  split at hne
  ·assumption
  ·exact absurd rfl hne
/-- The least and the greatest of the first of some numbers. -/
structure Ends (v : Nat → Int) (n k : Nat) (a b : Int) : Prop where
 all : ∀ j,j < k → a ≤ v j ∧ v j ≤ b
 lo : ∃ j,j < n ∧ v j = a
 hi : ∃ j,j < n ∧ v j = b
theorem Ends.start {v : Nat → Int} {n : Nat} (h : 0 < n) : Ends v n 0 (v 0) (v 0):=⟨fun j hj => by omega,⟨0,h,rfl⟩,⟨0,h,rfl⟩⟩
theorem Ends.step {v : Nat → Int} {n k : Nat} {a b : Int} (h : Ends v n k a b) (hk : k < n) : Ends v n (k + 1) (min a (v k)) (max b (v k)):=by
 refine ⟨fun j hj => ?_,?_,?_⟩
 ·by_cases hjk : j < k
  ·have:=h.all j hjk; omega
  ·rw [show j = k by omega]; omega
 ·by_cases hv : v k < a
  ·exact ⟨k,hk,by omega⟩
  ·obtain ⟨j,hj,e⟩:=h.lo
   exact ⟨j,hj,by omega⟩
 ·by_cases hv : b < v k
  ·exact ⟨k,hk,by omega⟩
  ·obtain ⟨j,hj,e⟩:=h.hi
   exact ⟨j,hj,by omega⟩
theorem Ends.eq {v : Nat → Int} {n : Nat} {a b lo hi : Int} (h : Ends v n n a b) (hb : ∀ j,j < n → lo ≤ v j ∧ v j ≤ hi) (h1 : ∃ j,j < n ∧ v j = lo) (h2 : ∃ j,j < n ∧ v j = hi) : a = lo ∧ b = hi:=by
 obtain ⟨j1,q1,e1⟩:=h.lo
 obtain ⟨j2,q2,e2⟩:=h.hi
 obtain ⟨j3,q3,e3⟩:=h1
 obtain ⟨j4,q4,e4⟩:=h2
 have:=hb j1 q1
 have:=hb j2 q2
 have:=h.all j3 q3
 have:=h.all j4 q4
 omega
section
variable {st z0 z1 : Int} {es : List Ev} (h1 : 1 ≤ st) (hm : ∀ e ∈ es,e.sh.tmod st = 0) (ho : ∀ e ∈ es,EvOk e) (hmost : ∀ y,FPath st z0 z1 es y → ∀ i e,es[i]? = some e → (ldRng st e (y i)).2 ≤ 30)
include h1 hm ho hmost
end
end Go.Proofs.Ytgbogdckmfencaa

/-! All facts of a small log: just what is told. Nothing of the program. -/
namespace Go.Proofs.Ytgbogdckmfencaa
/-- The zeros that the reference knows by those before; a zero may be given (gv, zr). -/
def fitOne (st : Int) (e : Ev) (gv zr : Int) (i : Nat) (z : Int) (ok : Int → Bool) : Bool :=
 decide (-200 ≤ z) && decide (z ≤ 200) && !(decide ((ldRng st e z).2 < (ldRng st e z).1) || (decide ((i : Int) = gv) && decide (z ≠ zr))) && (rngL (z - e.c1) (z - e.c0)).any ok
def fitF (st z0 z1 : Int) (es : List Ev) (gv zr : Int) : Nat → Int → Bool
 | 0,z => match es[0]? with
  | some e => fitOne st e gv zr 0 z fun y => decide (z0 ≤ y) && decide (y ≤ z1)
  | none => false
 | i + 1,z => match es[i + 1]? with
  | some e => fitOne st e gv zr (i + 1) z (fitF st z0 z1 es gv zr i)
  | none => false
/-- The zeros that it knows by all: of event n - 1 - d of n. -/
def fitB (st z0 z1 : Int) (es : List Ev) (gv zr : Int) (n : Nat) : Nat → Int → Bool
 | 0,z => fitF st z0 z1 es gv zr (n - 1) z
 | d + 1,z => match es[n - 1 - d]? with
  | some e => fitF st z0 z1 es gv zr (n - 1 - (d + 1)) z && (rngL (z + e.c0) (z + e.c1)).any (fitB st z0 z1 es gv zr n d)
  | none => false
/-- The first zeros of a truth, up to event i. -/
structure PPath (st z0 z1 : Int) (es : List Ev) (gv zr : Int) (i : Nat) (z : Nat → Int) : Prop where
 first : ∀ e : Ev,es[0]? = some e → z0 + e.c0 ≤ z 0 ∧ z 0 ≤ z1 + e.c1
 next : ∀ (j : Nat) (e : Ev),j < i → es[j + 1]? = some e → z j + e.c0 ≤ z (j + 1) ∧ z (j + 1) ≤ z j + e.c1
 at_ : ∀ (j : Nat) (e : Ev),j ≤ i → es[j]? = some e → sLo st e ≤ z j ∧ z j ≤ sHi st e
 giv : ∀ j : Nat,j ≤ i → (j : Int) = gv → z j = zr
theorem any_rng {lo hi : Int} {f : Int → Bool} : (rngL lo hi).any f = true ↔ ∃ y,lo ≤ y ∧ y ≤ hi ∧ f y = true:=by
 rw [List.any_eq_true]
 constructor
 ·rintro ⟨y,h,k⟩
  have:=rngL_mem h
  exact ⟨y,this.1,this.2,k⟩
 ·rintro ⟨y,h1,h2,k⟩
  exact ⟨y,mem_rngL h1 h2,k⟩
theorem fitOne_iff {st : Int} {e : Ev} (ho : EvOk e) (h1 : 1 ≤ st) {gv zr : Int} {i : Nat} {z : Int} {ok : Int → Bool} : fitOne st e gv zr i z ok = true ↔ (sLo st e ≤ z ∧ z ≤ sHi st e) ∧ ((i : Int) = gv → z = zr) ∧ ∃ y,z - e.c1 ≤ y ∧ y ≤ z - e.c0 ∧ ok y = true:=by
 unfold fitOne
 simp only [Bool.and_eq_true,decide_eq_true_eq,any_rng,Bool.not_eq_true',Bool.or_eq_false_iff,Bool.and_eq_false_iff,decide_eq_false_iff_not,Classical.not_not,ne_eq]
 constructor
 ·rintro ⟨⟨⟨a,b⟩,c,d⟩,k⟩
  exact ⟨of_rng (n:=(ldRng st e z).1) ho ⟨by omega,by omega⟩ a b,fun hg => d.resolve_left (fun h => h hg),k⟩
 ·rintro ⟨s,g,k⟩
  have r:=rng_of ho h1 s
  refine ⟨⟨⟨r.2.1,r.2.2⟩,by omega,?_⟩,k⟩
  by_cases hg : (i : Int) = gv
  ·exact .inr (g hg)
  ·exact .inl hg
section
variable {st z0 z1 : Int} {es : List Ev} {gv zr : Int}
theorem PPath.pre {i k : Nat} {z : Nat → Int} (h : PPath st z0 z1 es gv zr i z) (hk : k ≤ i) : PPath st z0 z1 es gv zr k z :=
 ⟨h.first,fun j e hj he => h.next j e (by omega) he,fun j e hj he => h.at_ j e (by omega) he,fun j hj => h.giv j (by omega)⟩
theorem fitF_iff (ho : ∀ e ∈ es,EvOk e) (h1 : 1 ≤ st) (h01 : z0 ≤ z1) : ∀ (i : Nat) (z : Int),i < es.length → (fitF st z0 z1 es gv zr i z = true ↔ ∃ y,PPath st z0 z1 es gv zr i y ∧ y i = z):=by
 intro i
 induction i with
 | zero =>
  intro z hi
  have hv:=List.getElem?_eq_getElem hi
  rw [fitF,hv]
  try dsimp only
  rw [fitOne_iff (ho _ (List.getElem_mem hi)) h1]
  constructor
  ·rintro ⟨a,b,y,c,d,e⟩
   simp only [Bool.and_eq_true,decide_eq_true_eq] at e
   refine ⟨fun _ => z,⟨fun x hx => ?_,fun j x hj => by omega,fun j x hj hx => ?_,fun j hj hg => ?_⟩,rfl⟩
   ·rw [hv] at hx; cases hx; omega
   ·obtain rfl : j = 0:=by omega
    rw [hv] at hx; cases hx; exact a
   ·obtain rfl : j = 0:=by omega
    exact b hg
  ·rintro ⟨y,p,rfl⟩
   have f:=p.first _ hv
   refine ⟨p.at_ 0 _ (Nat.le_refl _) hv,p.giv 0 (Nat.le_refl _),if y 0 - es[0].c1 ≤ z0 then z0 else y 0 - es[0].c1,?_,?_,?_⟩
   ·split <;> omega
   ·have:=(ho _ (List.getElem_mem hi)).c2
    split <;> omega
   ·simp only [Bool.and_eq_true,decide_eq_true_eq]
    split <;> omega
 | succ i ih =>
  intro z hi
  have hv:=List.getElem?_eq_getElem hi
  rw [fitF,hv]
  try dsimp only
  rw [fitOne_iff (ho _ (List.getElem_mem hi)) h1]
  constructor
  ·rintro ⟨a,b,y,c,d,e⟩
   rw [ih y (by omega)] at e
   obtain ⟨f,p,rfl⟩:=e
   refine ⟨fun j => if j = i + 1 then z else f j,⟨fun x hx => ?_,fun j x hj hx => ?_,fun j x hj hx => ?_,fun j hj hg => ?_⟩,by simp⟩
   ·have:=p.first x hx
    try dsimp only
    rw [if_neg (by omega)]
    exact this
   ·try dsimp only
    rw [if_neg (by omega)]
    by_cases hji : j = i
    ·subst hji
     rw [hv] at hx; cases hx
     rw [if_pos rfl]
     omega
    ·rw [if_neg (by omega)]
     exact p.next j x (by omega) hx
   ·try dsimp only
    split
    ·rename_i hji; subst hji
     rw [hv] at hx; cases hx; exact a
    ·exact p.at_ j x (by omega) hx
   ·try dsimp only
    split
    ·rename_i hji; subst hji; exact b hg
    ·exact p.giv j (by omega) hg
  ·rintro ⟨f,p,rfl⟩
   have n:=p.next i _ (Nat.lt_succ_self _) hv
   exact ⟨p.at_ _ _ (Nat.le_refl _) hv,p.giv _ (Nat.le_refl _),f i,by omega,by omega,(ih _ (by omega)).2 ⟨f,p.pre (by omega),rfl⟩⟩
theorem fitB_iff (ho : ∀ e ∈ es,EvOk e) (h1 : 1 ≤ st) (h01 : z0 ≤ z1) {n : Nat} (hn : n ≤ es.length) : ∀ (d : Nat) (z : Int),d < n → (fitB st z0 z1 es gv zr n d z = true ↔ ∃ y,PPath st z0 z1 es gv zr (n - 1) y ∧ y (n - 1 - d) = z):=by
 intro d
 induction d with
 | zero =>
  intro z hd
  rw [fitB,fitF_iff ho h1 h01 _ _ (by omega)]
  rfl
 | succ d ih =>
  intro z hd
  have hi : n - 1 - d < es.length:=by omega
  have hv:=List.getElem?_eq_getElem hi
  obtain ⟨i,hii⟩ : ∃ i,n - 1 - (d + 1) = i:=⟨_,rfl⟩
  have h2 : n - 1 - d = i + 1:=by omega
  rw [fitB,hv]
  try dsimp only
  rw [hii]
  simp only [h2] at hv hi ih ⊢
  rw [Bool.and_eq_true,any_rng,fitF_iff ho h1 h01 _ _ (by omega)]
  constructor
  ·rintro ⟨⟨f,p,rfl⟩,t,a,b,c⟩
   rw [ih t (by omega)] at c
   obtain ⟨g,q,rfl⟩:=c
   refine ⟨fun j => if j ≤ i then f j else g j,⟨fun x hx => ?_,fun j x hj hx => ?_,fun j x hj hx => ?_,fun j hj hg => ?_⟩,by simp⟩
   ·try dsimp only
    rw [if_pos (by omega)]
    exact p.first x hx
   ·try dsimp only
    by_cases hji : j = i
    ·subst hji
     rw [hv] at hx; cases hx
     rw [if_pos (Nat.le_refl _),if_neg (by omega)]
     omega
    ·by_cases hj2 : j < i
     ·rw [if_pos (by omega),if_pos (by omega)]
      exact p.next j x hj2 hx
     ·rw [if_neg (by omega),if_neg (by omega)]
      exact q.next j x hj hx
   ·try dsimp only
    split
    ·exact p.at_ j x (by omega) hx
    ·exact q.at_ j x hj hx
   ·try dsimp only
    split
    ·exact p.giv j (by omega) hg
    ·exact q.giv j hj hg
  ·rintro ⟨f,p,rfl⟩
   have nx:=p.next i _ (by omega) hv
   exact ⟨⟨f,p.pre (by omega),rfl⟩,f (i + 1),nx.1,nx.2,(ih _ (by omega)).2 ⟨f,p,rfl⟩⟩
/-- Without a zero that is given, what is known by those before is a range. -/
theorem fitF_rng (ho : ∀ e ∈ es,EvOk e) (h1 : 1 ≤ st) (hg : gv < 0) (h01 : z0 ≤ z1) : ∀ (i : Nat) (z : Int),i < es.length → (∀ j,j < i → (bef st z0 z1 es (j + 1)).1 ≤ (bef st z0 z1 es (j + 1)).2) →
  (fitF st z0 z1 es gv zr i z = true ↔ (bef st z0 z1 es (i + 1)).1 ≤ z ∧ z ≤ (bef st z0 z1 es (i + 1)).2):=by
 intro i
 induction i with
 | zero =>
  intro z hi _
  have hv:=List.getElem?_eq_getElem hi
  have hc:=(ho _ (List.getElem_mem hi)).c2
  rw [fitF,hv]
  try dsimp only
  rw [fitOne_iff (ho _ (List.getElem_mem hi)) h1,bef_succ hi]
  unfold stepR
  rw [bef]
  try dsimp only
  constructor
  ·rintro ⟨a,b,y,c,d,e⟩
   simp only [Bool.and_eq_true,decide_eq_true_eq] at e
   omega
  ·intro h
   refine ⟨by omega,by omega,max (z - es[0].c1) z0,by omega,by omega,?_⟩
   simp only [Bool.and_eq_true,decide_eq_true_eq]
   omega
 | succ i ih =>
  intro z hi hf
  have hv:=List.getElem?_eq_getElem hi
  have hc:=(ho _ (List.getElem_mem hi)).c2
  have hfi:=hf i (by omega)
  have ih':=fun y => ih y (by omega) fun j hj => hf j (by omega)
  rw [fitF,hv]
  try dsimp only
  rw [fitOne_iff (ho _ (List.getElem_mem hi)) h1,bef_succ hi]
  simp only [ih']
  unfold stepR
  try dsimp only
  constructor
  ·rintro ⟨a,b,y,c,d,e⟩
   omega
  ·intro h
   exact ⟨by omega,by omega,max (z - es[i + 1].c1) (bef st z0 z1 es (i + 1)).1,by omega,by omega,by omega,by omega⟩
/-- Behind an event that contradicts, nothing is known. -/
theorem fitF_none (ho : ∀ e ∈ es,EvOk e) (h1 : 1 ≤ st) (hg : gv < 0) (h01 : z0 ≤ z1) {m : Nat} (hF : Fits st z0 z1 es m) (hm : m < es.length) : ∀ (i : Nat) (z : Int),m ≤ i → i < es.length → fitF st z0 z1 es gv zr i z = false:=by
 intro i
 induction i with
 | zero =>
  intro z h0 hi
  obtain rfl : m = 0:=by omega
  have:=hF.no hm
  cases hb : fitF st z0 z1 es gv zr 0 z with
  | false => rfl
  | true =>
   rw [fitF_rng ho h1 hg h01 0 z hi (by omega)] at hb
   omega
 | succ i ih =>
  intro z h0 hi
  cases hb : fitF st z0 z1 es gv zr (i + 1) z with
  | false => rfl
  | true =>
   by_cases hmi : m = i + 1
   ·subst hmi
    have:=hF.no hm
    rw [fitF_rng ho h1 hg h01 (i + 1) z hi (fun j hj => hF.yes j hj)] at hb
    omega
   ·have hv:=List.getElem?_eq_getElem hi
    rw [fitF,hv] at hb
    dsimp only at hb
    rw [fitOne_iff (ho _ (List.getElem_mem hi)) h1] at hb
    obtain ⟨_,_,y,_,_,c⟩:=hb
    rw [ih y (by omega) (by omega)] at c
    cases c
/-- What is known by all is the range that is told. -/
theorem fitB_rng (ho : ∀ e ∈ es,EvOk e) (h1 : 1 ≤ st) (hg : gv < 0) (h01 : z0 ≤ z1) (hF : Fits st z0 z1 es es.length) (hne : ∀ i,i < es.length → (zst st z0 z1 es 0 i).1 ≤ (zst st z0 z1 es 0 i).2) : ∀ (d : Nat) (z : Int),d < es.length →
  (fitB st z0 z1 es gv zr es.length d z = true ↔ (zst st z0 z1 es 0 (es.length - 1 - d)).1 ≤ z ∧ z ≤ (zst st z0 z1 es 0 (es.length - 1 - d)).2):=by
 intro d
 induction d with
 | zero =>
  intro z hd
  rw [fitB,fitF_rng ho h1 hg h01 _ _ (by omega) (fun j hj => hF.yes j (by omega)),zst_top (i:=es.length - 1 - 0) (by omega)]
  rfl
 | succ d ih =>
  intro z hd
  have hi : es.length - 1 - d < es.length:=by omega
  have hv:=List.getElem?_eq_getElem hi
  have hc:=(ho _ (List.getElem_mem hi)).c2
  have hn:=hne _ hi
  have hbd:=fitF_rng (zr:=zr) ho h1 hg h01 (es.length - 1 - (d + 1)) z (by omega) (fun j hj => hF.yes j (by omega))
  obtain ⟨i,hii⟩ : ∃ i,es.length - 1 - (d + 1) = i:=⟨_,rfl⟩
  have h2 : es.length - 1 - d = i + 1:=by omega
  rw [fitB,hv]
  try dsimp only
  rw [hii] at hbd ⊢
  simp only [h2] at hv hi ih hc hn ⊢
  rw [Bool.and_eq_true,any_rng,hbd,zst_rec hi]
  have ih':=fun y => ih y (by omega)
  simp only [ih']
  try dsimp only
  constructor
  ·rintro ⟨a,y,b,c,k⟩
   omega
  ·intro h
   exact ⟨by omega,max (z + es[i + 1].c0) (zst st z0 z1 es 0 (i + 1)).1,by omega,by omega,by omega,by omega⟩
end
section
variable {st z0 z1 : Int} {es : List Ev}
theorem PPath.full {gv zr : Int} {y : Nat → Int} (p : PPath st z0 z1 es gv zr (es.length - 1) y) : FPath st z0 z1 es y :=
 ⟨p.first,fun i e he => p.next i e (by have:=(List.getElem?_eq_some_iff.1 he).1; omega) he,fun i e he => p.at_ i e (by have:=(List.getElem?_eq_some_iff.1 he).1; omega) he⟩
theorem FPath.part {gv zr : Int} {y : Nat → Int} {i : Nat} (p : FPath st z0 z1 es y) (hg : ∀ j : Nat,j ≤ i → (j : Int) = gv → y j = zr) : PPath st z0 z1 es gv zr i y :=
 ⟨p.first,fun j e _ he => p.next j e he,fun j e _ he => p.at_ j e he,hg⟩
section
variable (h : LogOk st z0 z1 es) (hm : ∀ e ∈ es,e.sh.tmod st = 0) (hmost : ∀ y,FPath st z0 z1 es y → ∀ i e,es[i]? = some e → (ldRng st e (y i)).2 ≤ 30)
include h hm
include hmost
end
end
end Go.Proofs.Ytgbogdckmfencaa
