/- The reference's Zeros and Conflict, for all logs. -/
import Derived.Test.YtgbogdckmfencaaLe
import Derived.Test.YtgbogdckmfencaaPhM
import Derived.Test.YtgbogdckmfencaaOpM
set_option linter.unusedSimpArgs false
set_option linter.unusedVariables false
namespace Go.Proofs.Ytgbogdckmfencaa
open Go Go.RowKit
section
variable {st z0 z1 : Int} {es : List Ev} (h : LogOk st z0 z1 es)
include h
/-- There is a truth of the first events just if each of them fits. -/
theorem smF_iff (i : Nat) (hi : i ≤ es.length) : smF st z0 z1 es (-1) 0 i = true ↔ ∀ j,j < i → (bef st z0 z1 es (j + 1)).1 ≤ (bef st z0 z1 es (j + 1)).2:=by
 cases i with
 | zero => exact ⟨fun _ j hj => by omega,fun _ => decide_eq_true h.r2⟩
 | succ i =>
  show (rngL (-200) 200).any (fitF st z0 z1 es (-1) 0 i) = true ↔ _
  rw [any_rng]
  constructor
  ·rintro ⟨y,_,_,hy⟩
   obtain ⟨m,hm⟩:=fits_some st z0 z1 es
   rcases Nat.lt_or_ge m es.length with hml | hml
   ·rcases Nat.lt_or_ge i m with him | him
    ·exact fun j hj => hm.yes j (by omega)
    ·rw [fitF_none h.ev h.s1 (by omega) h.r2 hm hml i y him (by omega)] at hy
     cases hy
   ·exact fun j hj => hm.yes j (by omega)
  ·intro hb
   have hbi:=hb i (Nat.lt_succ_self i)
   have hlo:=bef_lo h (i + 1)
   refine ⟨(bef st z0 z1 es (i + 1)).1,by omega,by omega,?_⟩
   rw [fitF_rng h.ev h.s1 (by omega) h.r2 i _ (by omega) (fun j hj => hb j (by omega))]
   exact ⟨Int.le_refl _,hbi⟩
theorem smF_fits {m : Nat} (hm : Fits st z0 z1 es m) : smF st z0 z1 es (-1) 0 es.length = decide (m = es.length):=by
 have hi:=smF_iff h es.length (Nat.le_refl _)
 cases hs : smF st z0 z1 es (-1) 0 es.length with
 | true =>
  rw [hs] at hi
  have hb:=hi.1 rfl
  have : m = es.length:=by
   rcases Nat.lt_or_ge m es.length with h1 | h1
   ·have:=hm.no h1; have:=hb m h1; omega
   ·have:=hm.le; omega
  exact (decide_eq_true this).symm
 | false =>
  rw [hs] at hi
  have : m ≠ es.length:=fun e => by
   have:=hi.2 (fun j hj => hm.yes j (by omega))
   cases this
  exact (decide_eq_false this).symm
theorem gB_may (hf : Fits st z0 z1 es es.length) {i : Nat} (hi : i < es.length) (z : Int) : mayB (gB st z0 z1 es (-1) 0 es.length) i z = decide ((zst st z0 z1 es 0 i).1 ≤ z ∧ z ≤ (zst st z0 z1 es 0 i).2):=by
 have g:=zst_good h hf i hi
 have hr:=fitB_rng (zr:=0) (gv:=-1) h.ev h.s1 (by omega) h.r2 hf (fun i hi => (zst_good h hf i hi).2.1) (es.length - 1 - i) z (by omega)
 rw [show es.length - 1 - (es.length - 1 - i) = i by omega] at hr
 unfold mayB gB
 by_cases hz : -200 ≤ z ∧ z ≤ 200
 ·rw [btw_t hz,Bool.true_and,show (((z + 200).toNat : Nat) : Int) - 200 = z by omega]
  cases hb : fitB st z0 z1 es (-1) 0 es.length (es.length - 1 - i) z with
  | true => rw [hb] at hr; exact (decide_eq_true (hr.1 rfl)).symm
  | false =>
   rw [hb] at hr
   exact (decide_eq_false (fun e => by have:=hr.2 e; cases this)).symm
 ·rw [btw_f hz,Bool.false_and]
  exact (decide_eq_false (fun e => hz ⟨by omega,by omega⟩)).symm
end
theorem Grid.grown {w x : World} {b n : Nat} {FA : Option Addr} {q : Nat → Nat} {f : Nat → Nat → Bool} (h : Grid w b FA n q f) {b' t s m : Nat} {v : Value} {xs : List Value} (ho : w.ownsRow b' t s v m xs) (h1 : 126 ≠ t) (h2 : 4 ≠ t) (g : w.grownBy x v.ownBlock) : Grid x b FA n q f:=by
 refine ⟨fun h0 => ?_,fun i hi => ⟨(h.rows i hi).1,(h.rows i hi).2.grown g (own_bx ho (h.rows i hi).2 h2)⟩,h.inj⟩
 obtain ⟨o,cur,e1,e2,e3,e4⟩:=h.out h0
 exact ⟨o,cur,e1,e2,e3.grown g (own_bx ho e3 h1),e4⟩
/-- Between two rounds of Zeros' loop. -/
structure ZI (w : World) (bK b : Nat) (st z0 z1 : Int) (A : Option Addr) (n c : Nat) (FA : Option Addr) (FC : Nat) (q : Nat → Nat) (f : Nat → Nat → Bool) (wr : World) : Prop where
 k1 : Bx wr w.heap.size 26 #[.int .i64 st,.int .i64 z0,.int .i64 z1,.slice A n c]
 k5 : Bx wr bK 96 #[.slice FA n FC]
 gr : Grid wr b FA n q f
 hb : Below w.heap.size w wr
section
variable {w wr x : World} {bK b : Nat} {st z0 z1 : Int} {A : Option Addr} {n c : Nat} {FA : Option Addr} {FC : Nat} {q : Nat → Nat} {f : Nat → Nat → Bool}
theorem ZI.bel (I : ZI w bK b st z0 z1 A n c FA FC q f wr) (h : Below wr.heap.size wr x) : ZI w bK b st z0 z1 A n c FA FC q f x:=⟨I.k1.call h,I.k5.call h,I.gr.bel h,I.hb.trans (h.mono I.hb.size)⟩
theorem ZI.grown (I : ZI w bK b st z0 z1 A n c FA FC q f wr) {m : Nat} {v : Value} {xs : List Value} (ho : wr.ownsRow w.heap.size 23 2 v m xs) (g : wr.grownBy x v.ownBlock) : ZI w bK b st z0 z1 A n c FA FC q f x :=
 ⟨I.k1.grown g (own_bx ho I.k1 (by decide)),I.k5.grown g (own_bx ho I.k5 (by decide)),I.gr.grown ho (by decide) (by decide) g,I.hb.grown g I.hb.size (fun k hk => (ho.lt k hk).1)⟩
end
end Go.Proofs.Ytgbogdckmfencaa

/-! The reference's Conflict; EqualLogs of equal logs. -/
namespace Go.Proofs.Ytgbogdckmfencaa
open Go Go.RowKit
set_option maxRecDepth 100000 in
set_option maxHeartbeats 4000000 in
theorem equalLogs_same (st z0 z1 : Int) (A : Option Addr) (n c : Nat) (A2 : Option Addr) (c2 : Nat) (es : List Ev) (w : World) (hn : n ≤ 9000000000000000000) (hl : es.length = n) (hA : EvsAt w w.heap.size A es) (hA2 : EvsAt w w.heap.size A2 es) :
  Calls Try.prog 25 #[.agg #[.int .i64 st,.int .i64 z0,.int .i64 z1,.slice A n c],.agg #[.int .i64 st,.int .i64 z0,.int .i64 z1,.slice A2 n c2]] w fun e w' => e = .returned (.bool true) ∧ Below w.heap.size w w':=by
 have HL:=Lib.hid hl
 clear hl
 have k2:=(Bx.new w 26 #[.int .i64 st,.int .i64 z0,.int .i64 z1,.slice A n c]).alloc (.cells #[.int .i64 st,.int .i64 z0,.int .i64 z1,.slice A2 n c2] 26)
 have k3:=Bx.at (w.alloc (.cells #[.int .i64 st,.int .i64 z0,.int .i64 z1,.slice A n c] 26)) 26 #[.int .i64 st,.int .i64 z0,.int .i64 z1,.slice A2 n c2] (n:=w.heap.size + 1) (by simp)
 have hB:=((Below.refl w.heap.size w).alloc (Nat.le_refl _) (.cells #[.int .i64 st,.int .i64 z0,.int .i64 z1,.slice A n c] 26)).alloc (by simp) (.cells #[.int .i64 st,.int .i64 z0,.int .i64 z1,.slice A2 n c2] 26)
 have H0:=Lib.hid (And.intro k2 (And.intro k3 hB))
 clear k2 k3 hB
 go_enter Try.func25,Try.ntmps25
 go_wp2_with fail
 go_loopw [6,5] (fun v6 v5 wr => ∃ i : Nat,i ≤ n ∧ v6 = .int .i64 i ∧ v5 = .bool true ∧ Bx wr w.heap.size 26 #[.int .i64 st,.int .i64 z0,.int .i64 z1,.slice A n c] ∧ Bx wr (w.heap.size + 1) 26 #[.int .i64 st,.int .i64 z0,.int .i64 z1,.slice A2 n c2] ∧ Below w.heap.size w wr) (fun v6 _ _ => n - (intOf v6).toNat)
 case atStart => exact ⟨0,by omega,rfl,rfl,H0.out.1,H0.out.2.1,H0.out.2.2⟩
 case round =>
  clear H0
  obtain ⟨w4,rfl⟩ : ∃ x,x = wr:=⟨_,rfl⟩
  obtain ⟨i,hi,rfl,rfl,k2,k3,hB⟩:=hrel
  by_cases hin : i < n
  ·have hie : i < es.length:=by rw [HL.out]; exact hin
   obtain ⟨ad,rfl,hab,q0,q1,q2,q3,q4⟩:=(EvsAt.below hA hB).at_ hie
   obtain ⟨bd,rfl,hbb,p0,p1,p2,p3,p4⟩:=(EvsAt.below hA2 hB).at_ hie
   generalize es[i] = e at *
   obtain ⟨kd,sh,ld,c0,c1⟩:=e
   dsimp only at *
   have HQ:=Lib.hid (And.intro q0 (And.intro q1 (And.intro q2 (And.intro q3 q4))))
   have HP:=Lib.hid (And.intro p0 (And.intro p1 (And.intro p2 (And.intro p3 p4))))
   have hsz:=hB.size
   clear q0 q1 q2 q3 q4 p0 p1 p2 p3 p4 hA hA2
   obtain ⟨l0,l1,l2,l3,lf,lz⟩:=k2.four
   obtain ⟨m0,m1,m2,m3,mf,mz⟩:=k3.four
   go_upto_region 5 with fail
   clear l0 l1 l2 l3 lf lz m0 m1 m2 m3 mf mz
   refine AnyG.startC (by kernel_rfl) ?_
   refine AnyG.takeP (i:=0) (v:=?_) rfl (by kernel_rfl) (fun _ _ _ h => h) rfl ?_ ?_
   rotate_left
   ·(intro w'; go_simp; try with_reducible rfl)
   try simp only [Act.put,Sp1,Sp2,Sp3,Sp4,Sp5,Sp6]
   refine AnyG.takeP (i:=2) (v:=?_) rfl (by kernel_rfl) (fun _ _ _ h => h) rfl ?_ ?_
   rotate_left
   ·(intro w'; go_simp; try with_reducible rfl)
   try simp only [Act.put,Sp1,Sp2,Sp3,Sp4,Sp5,Sp6]
   refine AnyG.takeP (i:=5) (v:=?_) rfl (by kernel_rfl) (fun _ _ _ h => h) rfl ?_ ?_
   rotate_left
   ·(intro w'; go_simp; try with_reducible rfl)
   try simp only [Act.put,Sp1,Sp2,Sp3,Sp4,Sp5,Sp6]
   refine AnyG.takeP (i:=7) (v:=?_) rfl (by kernel_rfl) (fun _ _ _ h => h) rfl ?_ ?_
   rotate_left
   ·(intro w'; go_simp; try with_reducible rfl)
   try simp only [Act.put,Sp1,Sp2,Sp3,Sp4,Sp5,Sp6]
   refine AnyG.enter (fun w' : World => Below w4.heap.size w4 w') (fun i => true) ?_
   have hS : (fun w' : World => Below w4.heap.size w4 w') (World.drew _):=(Below.refl _ _).drew
   refine AnyG.takeC (i:=1) (v:=?_) rfl (by kernel_rfl) (fun _ _ _ h => h) rfl ?_ hS ?_
   rotate_left
   ·(intro w' hSw; (try dsimp only at hSw); obtain ⟨l0,l1,l2,l3,lf,lz⟩:=(k2.call hSw).four; go_simp; try with_reducible rfl)
   try simp only [Act.put,Sp1,Sp2,Sp3,Sp4,Sp5,Sp6]
   refine AnyG.takeC (i:=3) (v:=?_) rfl (by kernel_rfl) (fun _ _ _ h => h) rfl ?_ hS ?_
   rotate_left
   ·(intro w' hSw; (try dsimp only at hSw); go_simp; try with_reducible rfl)
   try simp only [Act.put,Sp1,Sp2,Sp3,Sp4,Sp5,Sp6]
   refine AnyG.takeC (i:=4) (v:=?_) rfl (by kernel_rfl) (fun _ _ _ h => h) rfl ?_ hS ?_
   rotate_left
   ·(intro w' hSw; (try dsimp only at hSw); have q0:=(hSw.cell (p:=ad.add (i * 5)) (by show (ad.add (i * 5)).block < _; rw [add_block]; omega)).trans HQ.out.1; have q1:=(hSw.cell (p:=⟨(ad.add (i * 5)).block,(ad.add (i * 5)).off + 1,none⟩) (by show (ad.add (i * 5)).block < _; rw [add_block]; omega)).trans HQ.out.2.1; have q2:=(hSw.cell (p:=⟨(ad.add (i * 5)).block,(ad.add (i * 5)).off + 2,none⟩) (by show (ad.add (i * 5)).block < _; rw [add_block]; omega)).trans HQ.out.2.2.1; have q3:=(hSw.cell (p:=⟨(ad.add (i * 5)).block,(ad.add (i * 5)).off + 3,none⟩) (by show (ad.add (i * 5)).block < _; rw [add_block]; omega)).trans HQ.out.2.2.2.1; have q4:=(hSw.cell (p:=⟨(ad.add (i * 5)).block,(ad.add (i * 5)).off + 4,none⟩) (by show (ad.add (i * 5)).block < _; rw [add_block]; omega)).trans HQ.out.2.2.2.2; go_simp; try with_reducible rfl)
   try simp only [Act.put,Sp1,Sp2,Sp3,Sp4,Sp5,Sp6]
   refine AnyG.takeC (i:=6) (v:=?_) rfl (by kernel_rfl) (fun _ _ _ h => h) rfl ?_ hS ?_
   rotate_left
   ·(intro w' hSw; (try dsimp only at hSw); obtain ⟨m0,m1,m2,m3,mf,mz⟩:=(k3.call hSw).four; go_simp; try with_reducible rfl)
   try simp only [Act.put,Sp1,Sp2,Sp3,Sp4,Sp5,Sp6]
   refine AnyG.takeC (i:=8) (v:=?_) rfl (by kernel_rfl) (fun _ _ _ h => h) rfl ?_ hS ?_
   rotate_left
   ·(intro w' hSw; (try dsimp only at hSw); go_simp; try with_reducible rfl)
   try simp only [Act.put,Sp1,Sp2,Sp3,Sp4,Sp5,Sp6]
   refine AnyG.takeC (i:=9) (v:=?_) rfl (by kernel_rfl) (fun _ _ _ h => h) rfl ?_ hS ?_
   rotate_left
   ·(intro w' hSw; (try dsimp only at hSw); have p0:=(hSw.cell (p:=bd.add (i * 5)) (by show (bd.add (i * 5)).block < _; rw [add_block]; omega)).trans HP.out.1; have p1:=(hSw.cell (p:=⟨(bd.add (i * 5)).block,(bd.add (i * 5)).off + 1,none⟩) (by show (bd.add (i * 5)).block < _; rw [add_block]; omega)).trans HP.out.2.1; have p2:=(hSw.cell (p:=⟨(bd.add (i * 5)).block,(bd.add (i * 5)).off + 2,none⟩) (by show (bd.add (i * 5)).block < _; rw [add_block]; omega)).trans HP.out.2.2.1; have p3:=(hSw.cell (p:=⟨(bd.add (i * 5)).block,(bd.add (i * 5)).off + 3,none⟩) (by show (bd.add (i * 5)).block < _; rw [add_block]; omega)).trans HP.out.2.2.2.1; have p4:=(hSw.cell (p:=⟨(bd.add (i * 5)).block,(bd.add (i * 5)).off + 4,none⟩) (by show (bd.add (i * 5)).block < _; rw [add_block]; omega)).trans HP.out.2.2.2.2; go_simp; try with_reducible rfl)
   try simp only [Act.put,Sp1,Sp2,Sp3,Sp4,Sp5,Sp6]
   refine AnyG.takeC (i:=10) (v:=?_) rfl (by kernel_rfl) (fun _ _ _ h => h) rfl ?_ hS ?_
   rotate_left
   ·(intro w' hSw; (try dsimp only at hSw); go_simp; try with_reducible rfl)
   try simp only [Act.put,Sp1,Sp2,Sp3,Sp4,Sp5,Sp6]
   refine AnyG.takeC (i:=11) (v:=?_) rfl (by kernel_rfl) (fun _ _ _ h => h) rfl ?_ hS ?_
   rotate_left
   ·(intro w' hSw; (try dsimp only at hSw); go_simp; try with_reducible rfl)
   try simp only [Act.put,Sp1,Sp2,Sp3,Sp4,Sp5,Sp6]
   refine AnyG.done (by kernel_rfl) ?_ _
   go_simp
   go_wp2_with fail
   go_roundw
   case rel => exact ⟨i + 1,by omega,by go_num,by first | rfl | simp,k2.drew,k3.drew,hB.drew⟩
   case measure => simp [intOf]; omega
  ·obtain rfl : i = n:=by omega
   obtain ⟨l0,l1,l2,l3,lf,lz⟩:=k2.four
   obtain ⟨m0,m1,m2,m3,mf,mz⟩:=k3.four
   go_wp2_with fail
   go_ret
   exact ⟨rfl,hB⟩
end Go.Proofs.Ytgbogdckmfencaa

/-! Zeros and Conflict: the program and the reference say the same, for all logs. -/
namespace Go.Proofs.Ytgbogdckmfencaa
open Go Go.RowKit
set_option maxRecDepth 100000 in
set_option maxHeartbeats 4000000 in
theorem copyLog_20 (st z0 z1 : Int) (A : Option Addr) (n c : Nat) (es : List Ev) (w : World) (hn : n ≤ 1000) (hl : es.length = n) (hA : EvsAt w w.heap.size A es) :
  Calls Try.prog 17 #[.agg #[.int .i64 st,.int .i64 z0,.int .i64 z1,.slice A n c]] w fun e w' => (∃ A' c',e = .returned (.agg #[.int .i64 st,.int .i64 z0,.int .i64 z1,.slice A' n c']) ∧ w'.ownsRow w.heap.size 28 5 (.slice A' n c') n (es.map Ev.cells).flatten) ∧ Below w.heap.size w w':=by
 have HL:=Lib.hid hl
 clear hl
 obtain ⟨i3,hi3,hz3,hs3,iy3⟩:=info_parts info28
 have hb0 : Below w.heap.size w (((w.alloc (.cells #[.int .i64 st,.int .i64 z0,.int .i64 z1,.slice A n c] 26)).alloc (.cells #[.int .i64 0,.int .i64 0,.int .i64 0,.slice none 0 0] 26)).alloc (.cells #[] 28)):=(((Below.refl _ _).alloc (Nat.le_refl _) _).alloc (by simp) _).alloc (by simp; omega) _
 have k1:=((Bx.new w 26 #[.int .i64 st,.int .i64 z0,.int .i64 z1,.slice A n c]).alloc (.cells #[.int .i64 0,.int .i64 0,.int .i64 0,.slice none 0 0] 26)).alloc (.cells #[] 28)
 have k2:=(Bx.at (w.alloc (.cells #[.int .i64 st,.int .i64 z0,.int .i64 z1,.slice A n c] 26)) 26 #[.int .i64 0,.int .i64 0,.int .i64 0,.slice none 0 0] (n:=w.heap.size + 1) (by simp)).alloc (.cells #[] 28)
 have how0:=World.ownsRow_made (w:=(w.alloc (.cells #[.int .i64 st,.int .i64 z0,.int .i64 z1,.slice A n c] 26)).alloc (.cells #[.int .i64 0,.int .i64 0,.int .i64 0,.slice none 0 0] 26)) (base:=w.heap.size) (e:=28) (size:=5) #[] 0 (by simp; omega) (by unfold maxLen; omega) (by simp)
 have hsz2 : ((w.alloc (.cells #[.int .i64 st,.int .i64 z0,.int .i64 z1,.slice A n c] 26)).alloc (.cells #[.int .i64 0,.int .i64 0,.int .i64 0,.slice none 0 0] 26)).heap.size = w.heap.size + 1 + 1:=by simp
 have how : (((w.alloc (.cells #[.int .i64 st,.int .i64 z0,.int .i64 z1,.slice A n c] 26)).alloc (.cells #[.int .i64 0,.int .i64 0,.int .i64 0,.slice none 0 0] 26)).alloc (.cells #[] 28)).ownsRow w.heap.size 28 5 (.slice (some ⟨w.heap.size + 1 + 1,0,none⟩) 0 0) 0 []:=hsz2 ▸ how0
 clear how0 hsz2
 have hE:=hA.below hb0
 cases A with
 | none =>
  have hn0 : n = 0:=by
   rcases Nat.eq_zero_or_pos n with h | h
   ·exact h
   ·obtain ⟨ad,h1,_⟩:=hA.at_ (k:=0) (by rw [HL.out]; exact h)
    cases h1
  subst hn0
  go_enter Try.func17,Try.ntmps17
  go_wp2_with fail
  obtain rfl : es = []:=List.eq_nil_of_length_eq_zero HL.out
  refine bodyPost_ret (v:=.agg #[.int .i64 st,.int .i64 z0,.int .i64 z1,.slice (some ⟨w.heap.size + 1 + 1,0,none⟩) 0 0]) (by simp [results,Try.results17,go_sem]) rfl ⟨⟨_,_,rfl,by simp,.inr ⟨w.heap.size + 1 + 1,0,#[],rfl,by omega,Bx.at _ 28 #[] (by simp),by omega,by unfold maxLen; omega,by simp,by simp⟩⟩,?_⟩
  exact (((Below.refl _ _).alloc (Nat.le_refl _) _).alloc (by simp) _).alloc (by simp; omega) _
 | some a =>
  have hcs:=evs_cells hE
  have h1c : ∀ u ∈ (es.map Ev.cells).flatten,u.oneCell' = true:=by
   intro u hu
   obtain ⟨r,hr,hur⟩:=List.mem_flatten.1 hu
   obtain ⟨e,_,rfl⟩:=List.mem_map.1 hr
   simp [Ev.cells] at hur
   rcases hur with rfl | rfl | rfl | rfl | rfl <;> simp [Value.oneCell']
  have hlen : (es.map Ev.cells).flatten.length = n * 5:=by rw [evs_flat,HL.out]
  obtain ⟨xs,hxs⟩ : ∃ xs,(es.map Ev.cells).flatten = xs:=⟨_,rfl⟩
  rw [hxs] at hcs h1c hlen ⊢
  go_enter Try.func17,Try.ntmps17
  go_wp2_with (first
   | (at_builtin; refine wpList_append_own _ rfl (.tmp 3) (.tmp 5) 24 rfl w.heap.size 28 i3 _ 5 40 Try.underlying24 hi3 hz3 hs3 iy3 rfl (by decide) (.slice (some ⟨w.heap.size + 1 + 1,0,none⟩) 0 0) 0 [] rfl how a n c xs rfl hlen hcs h1c (by unfold maxLen; omega) (by omega) (by simp <;> omega) ?_; intro v' w' o1 o2 o3; obtain ⟨A',C',rfl⟩:=own_shape o1; have k1b:=k1.grown o2 (by simp [Value.ownBlock] <;> omega); have k2b:=k2.grown o2 (by simp [Value.ownBlock] <;> omega); obtain ⟨a0,a1,a2,a3,af,az⟩:=k1b.four; obtain ⟨r0,r1,r2,r3,rf,rz⟩:=k2b.four)
   | fail)
  have o1' : w'.ownsRow w.heap.size 28 5 (.slice A' n C') n xs:=by simpa using o1
  have q1:=own_bx o1' k1b (by decide)
  have q2:=own_bx o1' k2b (by decide)
  have hB : Below w.heap.size w w':=hb0.grown o2 hb0.size (fun k e => by simp [Value.ownBlock] at e <;> omega)
  refine bodyPost_ret (v:=.agg #[.int .i64 st,.int .i64 z0,.int .i64 z1,.slice A' n C']) (by simp [results,Try.results17,go_sem,r0,r1,r2,r3,World.cell?_setCell_same',World.cell?_setCell_other]) rfl ⟨⟨_,_,rfl,?_⟩,?_⟩
  ·exact ((((o1'.kept (grown_set _ _ _ _) (.inr (Ne.symm q1))).kept (grown_set _ _ _ _) (.inr (Ne.symm q2))).kept (grown_set _ _ _ _) (.inr (Ne.symm q2))).kept (grown_set _ _ _ _) (.inr (Ne.symm q2))).kept (grown_set _ _ _ _) (.inr (Ne.symm q2))
  ·repeat (first | exact hB | refine Below.setCell ?_ (by simp) _)
end Go.Proofs.Ytgbogdckmfencaa
