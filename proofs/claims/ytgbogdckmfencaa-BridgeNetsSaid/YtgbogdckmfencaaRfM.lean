/- CopySlip; told: a log that is told a zero, and the slip of it. -/
import Derived.Test.YtgbogdckmfencaaAkM
import Derived.Test.YtgbogdckmfencaaMo
import Derived.Test.YtgbogdckmfencaaFolM
import Derived.Test.YtgbogdckmfencaaWmM
set_option linter.unusedSimpArgs false
set_option linter.unusedVariables false
namespace Go.Proofs.Ytgbogdckmfencaa
open Go Go.RowKit
/-- The rows of a slip, of one's own. -/
structure SlipAt (b : Nat) (w : World) (FA : Option Addr) (fn fc : Nat) (BA : Option Addr) (bn bc : Nat) (F B : List Int) : Prop where
 of : w.ownsRow b 3 1 (.slice FA fn fc) fn (ints F).flatten
 ob : w.ownsRow b 3 1 (.slice BA bn bc) bn (ints B).flatten
 ap : Ap (.slice FA fn fc) (.slice BA bn bc)
theorem SlipAt.bel {b : Nat} {w x : World} {FA : Option Addr} {fn fc : Nat} {BA : Option Addr} {bn bc : Nat} {F B : List Int} (h : SlipAt b w FA fn fc BA bn bc F B) (hb : Below w.heap.size w x) : SlipAt b x FA fn fc BA bn bc F B:=⟨own_bel h.of hb,own_bel h.ob hb,h.ap⟩
set_option maxRecDepth 100000 in
set_option maxHeartbeats 4000000 in
theorem copySlip_any (FA : Option Addr) (fn fc : Nat) (BA : Option Addr) (bn bc : Nat) (fs bs d0 d1 : Int) (F B : List Int) (w : World) (hf1 : fn ≤ 1000) (hb1 : bn ≤ 1000) (hfn : F.length = fn) (hbn : B.length = bn) (hF : Sl w w.heap.size 1 FA (ints F)) (hB : Sl w w.heap.size 1 BA (ints B)) :
  Calls Try.prog 28 #[.agg #[.slice FA fn fc,.slice BA bn bc,.int .i64 fs,.int .i64 bs,.int .i64 d0,.int .i64 d1]] w fun e w' => (∃ (FA2 : Option Addr) (fc2 : Nat) (BA2 : Option Addr) (bc2 : Nat),e = .returned (.agg #[.slice FA2 fn fc2,.slice BA2 bn bc2,.int .i64 fs,.int .i64 bs,.int .i64 d0,.int .i64 d1]) ∧ SlipAt w.heap.size w' FA2 fn fc2 BA2 bn bc2 F B) ∧ Below w.heap.size w w':=by
 have HFN:=Lib.hid hfn
 have HBN:=Lib.hid hbn
 clear hfn hbn
 have hB0 : Below w.heap.size w ((w.alloc (.cells #[.slice FA fn fc,.slice BA bn bc,.int .i64 fs,.int .i64 bs,.int .i64 d0,.int .i64 d1] 50)).alloc (.cells #[.slice none 0 0,.slice none 0 0,.int .i64 0,.int .i64 0,.int .i64 0,.int .i64 0] 50)):=((Below.refl _ _).alloc (Nat.le_refl _) _).alloc (by simp) _
 have kx0:=(Bx.new w 50 #[.slice FA fn fc,.slice BA bn bc,.int .i64 fs,.int .i64 bs,.int .i64 d0,.int .i64 d1]).alloc (.cells #[.slice none 0 0,.slice none 0 0,.int .i64 0,.int .i64 0,.int .i64 0,.int .i64 0] 50)
 have kr0:=Bx.at (w.alloc (.cells #[.slice FA fn fc,.slice BA bn bc,.int .i64 fs,.int .i64 bs,.int .i64 d0,.int .i64 d1] 50)) 50 #[.slice none 0 0,.slice none 0 0,.int .i64 0,.int .i64 0,.int .i64 0,.int .i64 0] (n:=w.heap.size + 1) (by simp)
 have hFV:=(Sl.below hF hB0).more hB0.size
 have hBV:=(Sl.below hB hB0).more hB0.size
 have HB0:=Lib.hid hB0
 have KX0:=Lib.hid kx0
 have KR0:=Lib.hid kr0
 clear hB0 kx0 kr0
 go_enter Try.func28,Try.ntmps28
 go_upto_region 1 with fail
 have hB0:=HB0.out
 have kx:=KX0.out
 have kr:=KR0.out
 clear HB0 KX0 KR0 hF hB
 obtain ⟨V,hV⟩ : ∃ V,(w.alloc (.cells #[.slice FA fn fc,.slice BA bn bc,.int .i64 fs,.int .i64 bs,.int .i64 d0,.int .i64 d1] 50)).alloc (.cells #[.slice none 0 0,.slice none 0 0,.int .i64 0,.int .i64 0,.int .i64 0,.int .i64 0] 50) = V:=⟨_,rfl⟩
 rw [hV] at hFV hBV hB0 kx kr ⊢
 obtain ⟨b,hb⟩ : ∃ b,w.heap.size = b:=⟨_,rfl⟩
 have hbV : b + 1 < V.heap.size:=by rw [← hV,← hb]; simp
 have hwb : b ≤ w.heap.size:=by omega
 have hwb2 : w.heap.size ≤ b:=by omega
 rw [hb] at kx kr hB0 ⊢
 clear hV hb
 refine AnyG.startC (by kernel_rfl) ?_
 refine AnyG.takeP (i:=0) (v:=?_) rfl (by kernel_rfl) (fun _ _ _ h => h) rfl ?_ ?_
 rotate_left
 ·(intro w'; go_simp; try with_reducible rfl)
 try simp only [Act.put,Sp1,Sp2,Sp3,Sp4,Sp5,Sp6]
 refine AnyG.takeP (i:=3) (v:=?_) rfl (by kernel_rfl) (fun _ _ _ h => h) rfl ?_ ?_
 rotate_left
 ·(intro w'; go_simp; try with_reducible rfl)
 try simp only [Act.put,Sp1,Sp2,Sp3,Sp4,Sp5,Sp6]
 refine AnyG.enter (fun w' : World => Below b w w' ∧ Bx w' b 50 #[.slice FA fn fc,.slice BA bn bc,.int .i64 fs,.int .i64 bs,.int .i64 d0,.int .i64 d1] ∧ Bx w' (b + 1) 50 #[.slice none 0 0,.slice none 0 0,.int .i64 0,.int .i64 0,.int .i64 0,.int .i64 0] ∧ Below V.heap.size V w') (fun i => i != 9 && i != 8 && i != 7) ?_
 have hS : (fun w' : World => Below b w w' ∧ Bx w' b 50 #[.slice FA fn fc,.slice BA bn bc,.int .i64 fs,.int .i64 bs,.int .i64 d0,.int .i64 d1] ∧ Bx w' (b + 1) 50 #[.slice none 0 0,.slice none 0 0,.int .i64 0,.int .i64 0,.int .i64 0,.int .i64 0] ∧ Below V.heap.size V w') (World.drew _):=⟨hB0.drew,kx.drew,kr.drew,(Below.refl _ _).drew⟩
 refine AnyG.takeC (i:=1) (v:=?_) rfl (by kernel_rfl) (fun _ _ _ h => h) rfl ?_ hS ?_
 rotate_left
 ·(intro w' hSw; (try dsimp only at hSw); obtain ⟨x0,x1,x2,x3,x4,x5,xf,xz⟩:=hSw.2.1.six; go_simp; try with_reducible rfl)
 try simp only [Act.put,Sp1,Sp2,Sp3,Sp4,Sp5,Sp6]
 refine AnyG.takeC (i:=4) (v:=?_) rfl (by kernel_rfl) (fun _ _ _ h => h) rfl ?_ hS ?_
 rotate_left
 ·(intro w' hSw; (try dsimp only at hSw); obtain ⟨x0,x1,x2,x3,x4,x5,xf,xz⟩:=hSw.2.1.six; go_simp; try with_reducible rfl)
 try simp only [Act.put,Sp1,Sp2,Sp3,Sp4,Sp5,Sp6]
 refine AnyG.one (i:=2) (by kernel_rfl) rfl rfl ?_
 go_simp
 refine (ints_any FA fn fc F _ hf1 HFN.out ((hFV.below hS.2.2.2).more hS.2.2.2.size)).mono ?_
 rintro er y2 ⟨⟨FA2,fc2,rfl,hoF⟩,hq2⟩
 have hsz2:=Nat.le_trans hwb hS.1.size
 refine Onward.on ⟨hS.1.trans (hq2.mono (Nat.le_trans hwb hS.1.size)),hS.2.1.call hq2,hS.2.2.1.call hq2,hS.2.2.2.trans (hq2.mono hS.2.2.2.size)⟩ (fun hS2 => ?_)
 clear hS
 have hS:=hS2
 clear hS2
 try simp only [Act.put,Sp1,Sp2,Sp3,Sp4,Sp5,Sp6]
 refine AnyG.takeC (i:=6) (v:=?_) rfl (by kernel_rfl) (fun _ _ _ h => h) rfl ?_ hS ?_
 rotate_left
 ·(intro w' hSw; (try dsimp only at hSw); go_simp; try with_reducible rfl)
 try simp only [Act.put,Sp1,Sp2,Sp3,Sp4,Sp5,Sp6]
 refine AnyG.one (i:=5) (by kernel_rfl) rfl rfl ?_
 go_simp
 refine (ints_any BA bn bc B _ hb1 HBN.out ((hBV.below hS.2.2.2).more hS.2.2.2.size)).mono ?_
 rintro er y5 ⟨⟨BA2,bc2,rfl,hoB⟩,hq5⟩
 have hsz5:=Nat.le_trans hwb hS.1.size
 have hoF5:=own_bel hoF hq5
 have hap : Ap (.slice FA2 fn fc2) (.slice BA2 bn bc2):=by
  by_cases h0 : (Value.slice FA2 fn fc2).ownBlock = none
  ·exact .inl h0
  ·refine .inr fun h => ?_
   obtain ⟨k,hk⟩:=Option.ne_none_iff_exists'.1 h0
   have a1:=(hoF.lt k hk).2
   have a2:=(hoB.lt k (by rw [← h]; exact hk)).1
   omega
 refine Onward.on ⟨hS.1.trans (hq5.mono (Nat.le_trans hwb hS.1.size)),hS.2.1.call hq5,hS.2.2.1.call hq5,hS.2.2.2.trans (hq5.mono hS.2.2.2.size)⟩ (fun hS2 => ?_)
 clear hS
 have hS:=hS2
 clear hS2
 try simp only [Act.put,Sp1,Sp2,Sp3,Sp4,Sp5,Sp6]
 refine AnyG.one (i:=7) (by kernel_rfl) rfl rfl ?_
 have kx5:=hS.2.1
 have kr5:=hS.2.2.1
 have hB5:=hS.1
 obtain ⟨x0,x1,x2,x3,x4,x5,xf,xz⟩:=kx5.six
 obtain ⟨r0,r1,r2,r3,r4,r5,rf,rz⟩:=kr5.six
 go_simp
 refine Onward.last rfl ?_
 try simp only [Act.put,Sp1,Sp2,Sp3,Sp4,Sp5,Sp6]
 refine AnyG.one (i:=8) (by kernel_rfl) rfl rfl ?_
 go_simp
 refine Onward.last rfl ?_
 try simp only [Act.put,Sp1,Sp2,Sp3,Sp4,Sp5,Sp6]
 refine AnyG.one (i:=9) (by kernel_rfl) rfl rfl ?_
 go_simp
 refine Onward.last rfl ?_
 try simp only [Act.put,Sp1,Sp2,Sp3,Sp4,Sp5,Sp6]
 refine AnyG.done (by kernel_rfl) ?_ _
 go_simp
 go_wp2_with fail
 have of6:=ownsRow_up (b':=b) hoF5 (fun q e => Nat.le_trans hsz2 (hoF5.lt q e).1)
 have ob6:=ownsRow_up (b':=b) hoB (fun q e => Nat.le_trans hsz5 (hoB.lt q e).1)
 have nf:=own_bx of6 kx5 (by decide)
 have nb:=own_bx ob6 kx5 (by decide)
 have mf:=own_bx of6 kr5 (by decide)
 have mb:=own_bx ob6 kr5 (by decide)
 have krF : Bx (World.setCell (World.setCell (World.setCell (World.setCell (World.setCell (World.setCell (World.setCell (World.setCell y5 ⟨b,0,none⟩ (.slice FA2 fn fc2)) ⟨b,1,none⟩ (.slice BA2 bn bc2)) ⟨b + 1,0,none⟩ (.slice FA2 fn fc2)) ⟨b + 1,1,none⟩ (.slice BA2 bn bc2)) ⟨b + 1,2,none⟩ (.int .i64 fs)) ⟨b + 1,3,none⟩ (.int .i64 bs)) ⟨b + 1,4,none⟩ (.int .i64 d0)) ⟨b + 1,5,none⟩ (.int .i64 d1)) (b + 1) 50 #[.slice FA2 fn fc2,.slice BA2 bn bc2,.int .i64 fs,.int .i64 bs,.int .i64 d0,.int .i64 d1]:=by have:=((((((((kr5.far (p:=⟨b,0,none⟩) (by simp) (.slice FA2 fn fc2)).far (p:=⟨b,1,none⟩) (by simp) (.slice BA2 bn bc2)).set_ 0 (.slice FA2 fn fc2)).set_ 1 (.slice BA2 bn bc2)).set_ 2 (.int .i64 fs)).set_ 3 (.int .i64 bs)).set_ 4 (.int .i64 d0)).set_ 5 (.int .i64 d1)); simpa using this
 have ofF : World.ownsRow (World.setCell (World.setCell (World.setCell (World.setCell (World.setCell (World.setCell (World.setCell (World.setCell y5 ⟨b,0,none⟩ (.slice FA2 fn fc2)) ⟨b,1,none⟩ (.slice BA2 bn bc2)) ⟨b + 1,0,none⟩ (.slice FA2 fn fc2)) ⟨b + 1,1,none⟩ (.slice BA2 bn bc2)) ⟨b + 1,2,none⟩ (.int .i64 fs)) ⟨b + 1,3,none⟩ (.int .i64 bs)) ⟨b + 1,4,none⟩ (.int .i64 d0)) ⟨b + 1,5,none⟩ (.int .i64 d1)) b 3 1 (.slice FA2 fn fc2) fn (ints F).flatten:=own_set (own_set (own_set (own_set (own_set (own_set (own_set (own_set of6 nf _) nf _) mf _) mf _) mf _) mf _) mf _) mf _
 have obF : World.ownsRow (World.setCell (World.setCell (World.setCell (World.setCell (World.setCell (World.setCell (World.setCell (World.setCell y5 ⟨b,0,none⟩ (.slice FA2 fn fc2)) ⟨b,1,none⟩ (.slice BA2 bn bc2)) ⟨b + 1,0,none⟩ (.slice FA2 fn fc2)) ⟨b + 1,1,none⟩ (.slice BA2 bn bc2)) ⟨b + 1,2,none⟩ (.int .i64 fs)) ⟨b + 1,3,none⟩ (.int .i64 bs)) ⟨b + 1,4,none⟩ (.int .i64 d0)) ⟨b + 1,5,none⟩ (.int .i64 d1)) b 3 1 (.slice BA2 bn bc2) bn (ints B).flatten:=own_set (own_set (own_set (own_set (own_set (own_set (own_set (own_set ob6 nb _) nb _) mb _) mb _) mb _) mb _) mb _) mb _
 have hBF : Below b w (World.setCell (World.setCell (World.setCell (World.setCell (World.setCell (World.setCell (World.setCell (World.setCell y5 ⟨b,0,none⟩ (.slice FA2 fn fc2)) ⟨b,1,none⟩ (.slice BA2 bn bc2)) ⟨b + 1,0,none⟩ (.slice FA2 fn fc2)) ⟨b + 1,1,none⟩ (.slice BA2 bn bc2)) ⟨b + 1,2,none⟩ (.int .i64 fs)) ⟨b + 1,3,none⟩ (.int .i64 bs)) ⟨b + 1,4,none⟩ (.int .i64 d0)) ⟨b + 1,5,none⟩ (.int .i64 d1)):=Below.setCell (Below.setCell (Below.setCell (Below.setCell (Below.setCell (Below.setCell (Below.setCell (Below.setCell hB5 (Nat.le_refl b) _) (Nat.le_refl b) _) (Nat.le_succ b) _) (Nat.le_succ b) _) (Nat.le_succ b) _) (Nat.le_succ b) _) (Nat.le_succ b) _) (Nat.le_succ b) _
 obtain ⟨W,hW⟩ : ∃ W,(World.setCell (World.setCell (World.setCell (World.setCell (World.setCell (World.setCell (World.setCell (World.setCell y5 ⟨b,0,none⟩ (.slice FA2 fn fc2)) ⟨b,1,none⟩ (.slice BA2 bn bc2)) ⟨b + 1,0,none⟩ (.slice FA2 fn fc2)) ⟨b + 1,1,none⟩ (.slice BA2 bn bc2)) ⟨b + 1,2,none⟩ (.int .i64 fs)) ⟨b + 1,3,none⟩ (.int .i64 bs)) ⟨b + 1,4,none⟩ (.int .i64 d0)) ⟨b + 1,5,none⟩ (.int .i64 d1)) = W:=⟨_,rfl⟩
 rw [hW] at krF ofF obF hBF ⊢
 clear hW x0 x1 x2 x3 x4 x5 xf xz r0 r1 r2 r3 r4 r5 rf rz
 obtain ⟨r0,r1,r2,r3,r4,r5,rf,rz⟩:=krF.six
 refine bodyPost_ret (v:=.agg #[.slice FA2 fn fc2,.slice BA2 bn bc2,.int .i64 fs,.int .i64 bs,.int .i64 d0,.int .i64 d1]) (by simp [results,Try.results28,go_sem,r0,r1,r2,r3,r4,r5]) rfl ⟨⟨FA2,fc2,BA2,bc2,rfl,ownsRow_up ofF (fun q e => Nat.le_trans hwb2 (ofF.lt q e).1),ownsRow_up obF (fun q e => Nat.le_trans hwb2 (obF.lt q e).1),hap⟩,by first | exact hBF | exact hBF.mono hwb2⟩
theorem SlipAt.gr {b b' n : Nat} {w x : World} {FA : Option Addr} {fn fc : Nat} {BA : Option Addr} {bn bc : Nat} {F B : List Int} {v : Value} {xs : List Value} (h : SlipAt b w FA fn fc BA bn bc F B) (ho : w.ownsRow b' 28 5 v n xs) (g : w.grownBy x v.ownBlock) : SlipAt b x FA fn fc BA bn bc F B:=⟨h.of.kept g (own_ne h.of ho (by decide)),h.ob.kept g (own_ne h.ob ho (by decide)),h.ap⟩
theorem SlipAt.al {b : Nat} {w : World} {FA : Option Addr} {fn fc : Nat} {BA : Option Addr} {bn bc : Nat} {F B : List Int} (h : SlipAt b w FA fn fc BA bn bc F B) (o : Obj) : SlipAt b (w.alloc o) FA fn fc BA bn bc F B:=⟨h.of.alloc o,h.ob.alloc o,h.ap⟩
theorem SlipAt.set_ {b p : Nat} {w : World} {FA : Option Addr} {fn fc : Nat} {BA : Option Addr} {bn bc : Nat} {F B : List Int} {cs : Array Value} (h : SlipAt b w FA fn fc BA bn bc F B) (k : Bx w p 26 cs) (o : Nat) (u : Value) : SlipAt b (w.setCell ⟨p,o,none⟩ u) FA fn fc BA bn bc F B:=⟨own_set h.of (own_bx h.of k (by decide)) u,own_set h.ob (own_bx h.ob k (by decide)) u,h.ap⟩
section
variable {V : World} {p q i k C3 : Nat} {z0 z1 : Int} {A3 : Option Addr} {te : List Ev} {fn fc2 bn bc2 : Nat} {fs bs d0 d1 : Int} {F B : List Int} {j m f : Nat} {FA2 BA2 : Option Addr} {wr : World}
end
end Go.Proofs.Ytgbogdckmfencaa

/-! EqualInts and EqualSlips of equal ones. -/
namespace Go.Proofs.Ytgbogdckmfencaa
open Go Go.RowKit
set_option maxRecDepth 100000 in
set_option maxHeartbeats 4000000 in
theorem equalInts_same (X : Option Addr) (n c : Nat) (Y : Option Addr) (c2 : Nat) (l : List Int) (w : World) (hn : n ≤ 1000) (hl : l.length = n) (hX : Sl w w.heap.size 1 X (ints l)) (hY : Sl w w.heap.size 1 Y (ints l)) :
  Calls Try.prog 80 #[.slice X n c,.slice Y n c2] w fun e w' => e = .returned (.bool true) ∧ Below w.heap.size w w':=by
 have HL:=Lib.hid hl
 clear hl
 go_enter Try.func80,Try.ntmps80
 go_wp2_with fail
 go_loopw [6,5] (fun v6 v5 wr => ∃ i : Nat,i ≤ n ∧ v6 = .int .i64 i ∧ v5 = .bool true ∧ Below w.heap.size w wr) (fun v6 _ _ => n - (intOf v6).toNat)
 case atStart => exact ⟨0,by omega,rfl,rfl,Below.refl _ _⟩
 case round =>
  obtain ⟨w4,rfl⟩ : ∃ x,x = wr:=⟨_,rfl⟩
  obtain ⟨i,hi,rfl,rfl,hB⟩:=hrel
  by_cases hin : i < n
  ·have hie : i < l.length:=by rw [HL.out]; exact hin
   obtain ⟨ad,rfl,hab,q0⟩:=ints_at ((hX.below hB).more hB.size) hie
   obtain ⟨bd,rfl,hbb,p0⟩:=ints_at ((hY.below hB).more hB.size) hie
   obtain ⟨a,ha⟩ : ∃ a,l[i] = a:=⟨_,rfl⟩
   rw [ha] at q0 p0
   have HQ:=Lib.hid q0
   have HP:=Lib.hid p0
   have hab2 : (ad.add i).block < w4.heap.size:=by rw [add_block]; exact hab
   have hbb2 : (bd.add i).block < w4.heap.size:=by rw [add_block]; exact hbb
   clear q0 p0 ha hX hY
   go_upto_region 5 with fail
   refine AnyG.startC (by kernel_rfl) ?_
   refine AnyG.takeP (i:=0) (v:=?_) rfl (by kernel_rfl) (fun _ _ _ h => h) rfl ?_ ?_
   rotate_left
   ·(intro w'; go_simp; try with_reducible rfl)
   try simp only [Act.put,Sp1,Sp2,Sp3,Sp4,Sp5,Sp6]
   refine AnyG.takeP (i:=1) (v:=?_) rfl (by kernel_rfl) (fun _ _ _ h => h) rfl ?_ ?_
   rotate_left
   ·(intro w'; go_simp; try with_reducible rfl)
   try simp only [Act.put,Sp1,Sp2,Sp3,Sp4,Sp5,Sp6]
   refine AnyG.takeP (i:=2) (v:=?_) rfl (by kernel_rfl) (fun _ _ _ h => h) rfl ?_ ?_
   rotate_left
   ·(intro w'; go_simp; try with_reducible rfl)
   try simp only [Act.put,Sp1,Sp2,Sp3,Sp4,Sp5,Sp6]
   refine AnyG.takeP (i:=4) (v:=?_) rfl (by kernel_rfl) (fun _ _ _ h => h) rfl ?_ ?_
   rotate_left
   ·(intro w'; go_simp; try with_reducible rfl)
   try simp only [Act.put,Sp1,Sp2,Sp3,Sp4,Sp5,Sp6]
   refine AnyG.takeP (i:=5) (v:=?_) rfl (by kernel_rfl) (fun _ _ _ h => h) rfl ?_ ?_
   rotate_left
   ·(intro w'; go_simp; try with_reducible rfl)
   try simp only [Act.put,Sp1,Sp2,Sp3,Sp4,Sp5,Sp6]
   refine AnyG.takeP (i:=6) (v:=?_) rfl (by kernel_rfl) (fun _ _ _ h => h) rfl ?_ ?_
   rotate_left
   ·(intro w'; go_simp; try with_reducible rfl)
   try simp only [Act.put,Sp1,Sp2,Sp3,Sp4,Sp5,Sp6]
   refine AnyG.enter (fun w' : World => Below w4.heap.size w4 w') (fun i => true) ?_
   have hS : (fun w' : World => Below w4.heap.size w4 w') (World.drew _):=Below.drew (Below.refl _ _)
   refine AnyG.takeC (i:=3) (v:=?_) rfl (by kernel_rfl) (fun _ _ _ h => h) rfl ?_ hS ?_
   rotate_left
   ·(intro w' hSw; (try dsimp only at hSw); have q0:=(hSw.cell (p:=ad.add i) hab2).trans HQ.out; go_simp; try with_reducible rfl)
   try simp only [Act.put,Sp1,Sp2,Sp3,Sp4,Sp5,Sp6]
   refine AnyG.takeC (i:=7) (v:=?_) rfl (by kernel_rfl) (fun _ _ _ h => h) rfl ?_ hS ?_
   rotate_left
   ·(intro w' hSw; (try dsimp only at hSw); have p0:=(hSw.cell (p:=bd.add i) hbb2).trans HP.out; go_simp; try with_reducible rfl)
   try simp only [Act.put,Sp1,Sp2,Sp3,Sp4,Sp5,Sp6]
   refine AnyG.takeC (i:=8) (v:=?_) rfl (by kernel_rfl) (fun _ _ _ h => h) rfl ?_ hS ?_
   rotate_left
   ·(intro w' hSw; (try dsimp only at hSw); go_simp; try with_reducible rfl)
   try simp only [Act.put,Sp1,Sp2,Sp3,Sp4,Sp5,Sp6]
   refine AnyG.takeC (i:=9) (v:=?_) rfl (by kernel_rfl) (fun _ _ _ h => h) rfl ?_ hS ?_
   rotate_left
   ·(intro w' hSw; (try dsimp only at hSw); go_simp; try with_reducible rfl)
   try simp only [Act.put,Sp1,Sp2,Sp3,Sp4,Sp5,Sp6]
   refine AnyG.done (by kernel_rfl) ?_ _
   go_simp
   dsimp only at hS
   have hB2:=hB.trans (hS.mono hB.size)
   go_wp2_with fail
   go_roundw
   case rel => exact ⟨i + 1,by omega,by go_num,rfl,hB2⟩
   case measure => simp [intOf]; omega
  ·go_wp2_with fail
   go_ret
   exact ⟨rfl,hB⟩
set_option maxRecDepth 100000 in
set_option maxHeartbeats 4000000 in
theorem equalSlips_same (FA : Option Addr) (fn fc : Nat) (BA : Option Addr) (bn bc : Nat) (FA2 : Option Addr) (fc2 : Nat) (BA2 : Option Addr) (bc2 : Nat) (fs bs d0 d1 : Int) (F B : List Int) (w : World) (hfn : fn ≤ 1000) (hbn : bn ≤ 1000) (hf : F.length = fn) (hb : B.length = bn) (hF : Sl w w.heap.size 1 FA (ints F)) (hBs : Sl w w.heap.size 1 BA (ints B)) (hF2 : Sl w w.heap.size 1 FA2 (ints F)) (hB2 : Sl w w.heap.size 1 BA2 (ints B)) :
  Calls Try.prog 35 #[.agg #[.slice FA fn fc,.slice BA bn bc,.int .i64 fs,.int .i64 bs,.int .i64 d0,.int .i64 d1],.agg #[.slice FA2 fn fc2,.slice BA2 bn bc2,.int .i64 fs,.int .i64 bs,.int .i64 d0,.int .i64 d1]] w fun e w' => e = .returned (.bool true) ∧ Below w.heap.size w w':=by
 have HF:=Lib.hid hf
 have HBn:=Lib.hid hb
 have k1:=(Bx.new w 50 #[.slice FA fn fc,.slice BA bn bc,.int .i64 fs,.int .i64 bs,.int .i64 d0,.int .i64 d1]).alloc (.cells #[.slice FA2 fn fc2,.slice BA2 bn bc2,.int .i64 fs,.int .i64 bs,.int .i64 d0,.int .i64 d1] 50)
 have k2:=Bx.at (w.alloc (.cells #[.slice FA fn fc,.slice BA bn bc,.int .i64 fs,.int .i64 bs,.int .i64 d0,.int .i64 d1] 50)) 50 #[.slice FA2 fn fc2,.slice BA2 bn bc2,.int .i64 fs,.int .i64 bs,.int .i64 d0,.int .i64 d1] (n:=w.heap.size + 1) (by simp)
 have hB:=((Below.refl w.heap.size w).alloc (Nat.le_refl _) (.cells #[.slice FA fn fc,.slice BA bn bc,.int .i64 fs,.int .i64 bs,.int .i64 d0,.int .i64 d1] 50)).alloc (by simp) (.cells #[.slice FA2 fn fc2,.slice BA2 bn bc2,.int .i64 fs,.int .i64 bs,.int .i64 d0,.int .i64 d1] 50)
 obtain ⟨W,hW⟩ : ∃ x,(w.alloc (.cells #[.slice FA fn fc,.slice BA bn bc,.int .i64 fs,.int .i64 bs,.int .i64 d0,.int .i64 d1] 50)).alloc (.cells #[.slice FA2 fn fc2,.slice BA2 bn bc2,.int .i64 fs,.int .i64 bs,.int .i64 d0,.int .i64 d1] 50) = x:=⟨_,rfl⟩
 rw [hW] at k1 k2 hB
 have HW:=Lib.hid hW
 have hF':=(hF.below hB).more hB.size
 have hB':=(hBs.below hB).more hB.size
 have hF2':=(hF2.below hB).more hB.size
 have hB2':=(hB2.below hB).more hB.size
 clear hW hf hb hF hBs hF2 hB2
 obtain ⟨s0,s1,s2,s3,s4,s5,sf,sz⟩:=k1.six
 obtain ⟨t0,t1,t2,t3,t4,t5,tf,tz⟩:=k2.six
 go_enter Try.func35,Try.ntmps35
 go_upto_region 1 with fail
 rw [HW.out]
 go_wp2_with (first | (go_at_call_of 80 (Value.slice FA fn fc); refine (equalInts_same FA fn fc FA2 fc2 F _ hfn HF.out hF' hF2').mono ?_; rintro e w1 ⟨rfl,hq⟩; replace k1:=k1.call hq; replace k2:=k2.call hq; have hB1:=hB.trans (hq.mono hB.size); have hBx:=(hB'.below hq).more hq.size; have hB2x:=(hB2'.below hq).more hq.size; clear hq s0 s1 s2 s3 s4 s5 sf sz t0 t1 t2 t3 t4 t5 tf tz; obtain ⟨s0,s1,s2,s3,s4,s5,sf,sz⟩:=k1.six; obtain ⟨t0,t1,t2,t3,t4,t5,tf,tz⟩:=k2.six) | (go_at_call_of 80 (Value.slice BA bn bc); refine (equalInts_same BA bn bc BA2 bc2 B _ hbn HBn.out hBx hB2x).mono ?_; rintro e w2 ⟨rfl,hq⟩; replace k1:=k1.call hq; replace k2:=k2.call hq; have hBZ:=hB1.trans (hq.mono hB1.size); clear hq s0 s1 s2 s3 s4 s5 sf sz t0 t1 t2 t3 t4 t5 tf tz; obtain ⟨s0,s1,s2,s3,s4,s5,sf,sz⟩:=k1.six; obtain ⟨t0,t1,t2,t3,t4,t5,tf,tz⟩:=k2.six) | fail)
 go_ret
 exact ⟨rfl,hBZ⟩
end Go.Proofs.Ytgbogdckmfencaa

/-! The reference of layer 1: between, checkRange, checkEvent, Check return what ckR, ckE, ckL say, for all arguments; Loads, may, none. -/
namespace Go.Proofs.Ytgbogdckmfencaa
open Go Go.RowKit
def btwB (n lo hi : Int) : Bool:=decide (lo ≤ n ∧ n ≤ hi)
theorem btw_t {n lo hi : Int} (h : lo ≤ n ∧ n ≤ hi) : btwB n lo hi = true:=decide_eq_true h
theorem btw_f {n lo hi : Int} (h : ¬ (lo ≤ n ∧ n ≤ hi)) : btwB n lo hi = false:=decide_eq_false h
theorem between_b (n lo hi : Int) (w : World) : Calls Try.prog 64 #[.int .i64 n,.int .i64 lo,.int .i64 hi] w fun e w' => e = .returned (.bool (btwB n lo hi)) ∧ w = w':=by
 by_cases h1 : lo ≤ n
 ·by_cases h2 : n ≤ hi
  ·rw [btw_t ⟨h1,h2⟩]
   go_enter Try.func64,Try.ntmps64
   go_wp2
   all_goals go_ret
   all_goals first | exact ⟨rfl,rfl⟩ | trace_state
  ·rw [btw_f (fun h => h2 h.2)]
   go_enter Try.func64,Try.ntmps64
   go_wp2
   all_goals go_ret
   all_goals first | exact ⟨rfl,rfl⟩ | trace_state
 ·rw [btw_f (fun h => h1 h.1)]
  go_enter Try.func64,Try.ntmps64
  go_wp2
  all_goals go_ret
  all_goals first | exact ⟨rfl,rfl⟩ | trace_state
theorem refRange_any (a b lo hi : Int) (w : World) :
  Calls Try.prog 65 #[.agg #[.int .i64 a,.int .i64 b],.int .i64 lo,.int .i64 hi] w fun e w' => e = .returned (.int .i64 (ckR a b lo hi)) ∧ Below w.heap.size w w':=by
 by_cases ha : lo ≤ a ∧ a ≤ hi
 ·have h1:=btw_t ha
  by_cases hb : lo ≤ b ∧ b ≤ hi
  ·have h2:=btw_t hb
   go_enter Try.func65,Try.ntmps65
   go_wp2_with (first | (go_at_call 64; refine (between_b _ _ _ _).mono ?_; rintro e w1 ⟨rfl,rfl⟩) | fail)
   all_goals
    go_ret
    refine ⟨ret_int ?_,(Below.refl _ _).alloc (Nat.le_refl _) _⟩
    unfold ckR
    repeat (first | rw [if_pos (by omega)] | rw [if_neg (by omega)])
  ·have h2:=btw_f hb
   go_enter Try.func65,Try.ntmps65
   go_wp2_with (first | (go_at_call 64; refine (between_b _ _ _ _).mono ?_; rintro e w1 ⟨rfl,rfl⟩) | fail)
   all_goals
    go_ret
    refine ⟨ret_int ?_,(Below.refl _ _).alloc (Nat.le_refl _) _⟩
    unfold ckR
    repeat (first | rw [if_pos (by omega)] | rw [if_neg (by omega)])
 ·have h1:=btw_f ha
  go_enter Try.func65,Try.ntmps65
  go_wp2_with (first | (go_at_call 64; refine (between_b _ _ _ _).mono ?_; rintro e w1 ⟨rfl,rfl⟩) | fail)
  all_goals
   go_ret
   refine ⟨ret_int ?_,(Below.refl _ _).alloc (Nat.le_refl _) _⟩
   unfold ckR
   repeat (first | rw [if_pos (by omega)] | rw [if_neg (by omega)])
set_option maxHeartbeats 2000000 in
theorem refEvent_any (st z0 z1 : Int) (A : Option Addr) (n c : Nat) (kd sh ld c0 c1 : Int) (w : World) (h1 : 1 ≤ st) (h2 : st ≤ 100) :
  Calls Try.prog 66 #[.agg #[.int .i64 st,.int .i64 z0,.int .i64 z1,.slice A n c],.agg #[.int .i64 kd,.int .i64 sh,.int .i64 ld,.int .i64 c0,.int .i64 c1]] w fun r w' => r = .returned (.int .i64 (ckE st ⟨kd,sh,ld,c0,c1⟩)) ∧ Below w.heap.size w w':=by
 have hB2:=((Below.refl w.heap.size w).alloc (Nat.le_refl _) (.cells #[.int .i64 st,.int .i64 z0,.int .i64 z1,.slice A n c] 26)).alloc (by simp) (.cells #[.int .i64 kd,.int .i64 sh,.int .i64 ld,.int .i64 c0,.int .i64 c1] 28)
 have HB2:=Lib.hid hB2
 clear hB2
 obtain ⟨x1,e1⟩ : ∃ x,btwB kd 1 3 = x:=⟨_,rfl⟩
 obtain ⟨x2,e2⟩ : ∃ x,btwB sh (-60000) 60000 = x:=⟨_,rfl⟩
 obtain ⟨x3,e3⟩ : ∃ x,btwB ld 0 60000 = x:=⟨_,rfl⟩
 cases x1
 ·go_enter Try.func66,Try.ntmps66
  go_wp2_with (first | (go_at_call 64; refine (between_b _ _ _ _).mono ?_; rintro e w1 ⟨rfl,rfl⟩) | fail)
  go_ret
  refine ⟨ret_int ?_,HB2.out⟩
  unfold btwB at e1
  have:=of_decide_eq_false e1
  unfold ckE
  rw [if_pos (by dsimp only; omega)]
 ·have f1:=of_decide_eq_true e1
  cases x2
  ·go_enter Try.func66,Try.ntmps66
   go_wp2_with (first | (go_at_call 64; refine (between_b _ _ _ _).mono ?_; rintro e w1 ⟨rfl,rfl⟩) | fail)
   go_ret
   refine ⟨ret_int ?_,HB2.out⟩
   have:=of_decide_eq_false e2
   unfold ckE
   dsimp only
   rw [if_neg (by omega),if_pos (by omega)]
  ·have f2:=of_decide_eq_true e2
   by_cases hm : sh.tmod st = 0
   ·cases x3
    ·go_enter Try.func66,Try.ntmps66
     go_wp2_with (first | (go_at_call 64; refine (between_b _ _ _ _).mono ?_; rintro e w1 ⟨rfl,rfl⟩) | fail)
     all_goals go_ret
     all_goals refine ⟨ret_int ?_,HB2.out⟩
     all_goals have:=of_decide_eq_false e3
     all_goals unfold ckE
     all_goals dsimp only
     all_goals rw [if_neg (by omega),if_neg (by omega),if_neg (by omega),if_pos (by omega)]
    ·have f3:=of_decide_eq_true e3
     go_enter Try.func66,Try.ntmps66
     go_wp2_with (first | (go_at_call 64; refine (between_b _ _ _ _).mono ?_; rintro e w1 ⟨rfl,rfl⟩) | (go_at_call 65; refine (refRange_any _ _ _ _ _).mono ?_; rintro e w1 ⟨rfl,hb⟩) | fail)
     all_goals go_ret
     all_goals refine ⟨ret_int ?_,by first | exact HB2.out | exact (((Below.refl _ _).alloc (Nat.le_refl _) _).alloc (by simp) _) | exact (((Below.refl _ _).alloc (Nat.le_refl _) _).alloc (by simp) _).trans (hb.mono (by simp; omega))⟩
     all_goals unfold ckE
     all_goals dsimp only
     all_goals try simp only [bne_iff_ne,bne_eq_false_iff_eq] at *
     all_goals first | (exfalso; omega) | repeat (first | rw [if_pos (by omega)] | rw [if_neg (by omega)])
   ·go_enter Try.func66,Try.ntmps66
    go_wp2_with (first | (go_at_call 64; refine (between_b _ _ _ _).mono ?_; rintro e w1 ⟨rfl,rfl⟩) | fail)
    all_goals go_ret
    all_goals refine ⟨ret_int ?_,HB2.out⟩
    all_goals unfold ckE
    all_goals dsimp only
    all_goals rw [if_neg (by omega),if_neg (by omega),if_pos (by omega)]
set_option maxHeartbeats 2000000 in
theorem refCheck_any (st z0 z1 : Int) (A : Option Addr) (n c : Nat) (es : List Ev) (w : World) (hn : n ≤ 9223372036854775807) (hl : es.length = n) (hA : EvsAt w w.heap.size A es) :
  Calls Try.prog 23 #[.agg #[.int .i64 st,.int .i64 z0,.int .i64 z1,.slice A n c]] w fun e w' => e = .returned (.int .i64 (ckL st z0 z1 es)) ∧ Below w.heap.size w w':=by
 have HL:=Lib.hid hl
 clear hl
 by_cases hs : 1 ≤ st ∧ st ≤ 100
 case neg =>
  have H1 : ckL st z0 z1 es = 1:=by unfold ckL; rw [if_pos (by omega)]
  have e1:=btw_f hs
  go_enter Try.func23,Try.ntmps23
  go_wp2_with (first | (go_at_call 64; refine (between_b _ _ _ _).mono ?_; rintro e w1 ⟨rfl,rfl⟩) | fail)
  all_goals
   go_ret
   exact ⟨ret_int (by first | rfl | exact H1.symm),(Below.refl _ _).alloc (Nat.le_refl _) _⟩
 have e1:=btw_t hs
 obtain ⟨hs1,hs2⟩:=hs
 have hs0 : ¬ (st < 1 ∨ 100 < st):=by omega
 by_cases hz : ckR z0 z1 (-200) 200 = 0
 case neg =>
  have hz' : (ckR z0 z1 (-200) 200 != 0) = true:=by simpa using hz
  have H1 : ckL st z0 z1 es = ckR z0 z1 (-200) 200:=by unfold ckL; rw [if_neg hs0,if_pos hz]
  go_enter Try.func23,Try.ntmps23
  go_wp2_with (first | (go_at_call 64; refine (between_b _ _ _ _).mono ?_; rintro e w1 ⟨rfl,rfl⟩) | (go_at_call 65; refine (refRange_any _ _ _ _ _).mono ?_; rintro e w1 ⟨rfl,hb⟩; obtain ⟨hc,hf⟩:=bcell hb) | fail)
  go_ret
  exact ⟨ret_int H1.symm,((Below.refl _ _).alloc (Nat.le_refl _) _).trans (hb.mono (by simp))⟩
 have hz' : (ckR z0 z1 (-200) 200 != 0) = false:=by simpa using hz
 have HZ:=Lib.hid hz
 clear hz
 by_cases hn2 : 14 < n
 case pos =>
  have H1 : ckL st z0 z1 es = 6:=by unfold ckL; rw [if_neg hs0,if_neg (fun h => h HZ.out),if_pos (by rw [HL.out]; omega)]
  go_enter Try.func23,Try.ntmps23
  go_wp2_with (first | (go_at_call 64; refine (between_b _ _ _ _).mono ?_; rintro e w1 ⟨rfl,rfl⟩) | (go_at_call 65; refine (refRange_any _ _ _ _ _).mono ?_; rintro e w1 ⟨rfl,hb⟩; obtain ⟨hc,hf⟩:=bcell hb) | fail)
  go_ret
  exact ⟨ret_int H1.symm,((Below.refl _ _).alloc (Nat.le_refl _) _).trans (hb.mono (by simp))⟩
 have H1 : ckL st z0 z1 es = ckEs st es:=by unfold ckL; rw [if_neg hs0,if_neg (fun h => h HZ.out),if_neg (by rw [HL.out]; omega)]
 have H1:=Lib.hid H1
 go_enter Try.func23,Try.ntmps23
 go_wp2_with (first | (go_at_call 64; refine (between_b _ _ _ _).mono ?_; rintro e w1 ⟨rfl,rfl⟩) | (go_at_call 65; refine (refRange_any _ _ _ _ _).mono ?_; rintro e w1 ⟨rfl,hb⟩; obtain ⟨hc,hf⟩:=bcell hb) | fail)
 have kL1:=(Bx.new w 26 #[.int .i64 st,.int .i64 z0,.int .i64 z1,.slice A n c]).call hb
 have hB1 : Below w.heap.size w w1:=((Below.refl _ _).alloc (Nat.le_refl _) _).trans (hb.mono (by simp))
 have hE1:=hA.below hB1
 have hgt:=kL1.lt
 clear hc hf hb
 go_loopw [4] (fun i wr => ∃ k : Nat,k ≤ n ∧ i = .int .i64 k ∧ Hid (ckEs st es = ckEs st (es.drop k)) ∧ Below w1.heap.size w1 wr) (fun i _ => n - (intOf i).toNat)
 case atStart => exact ⟨0,by omega,rfl,rfl,Below.refl _ _⟩
 case round =>
  obtain ⟨k,hk,rfl,hd,hB⟩:=hrel
  have kL:=kL1.call hB
  have hBw:=hB1.trans (hB.mono hB1.size)
  by_cases hkn : k < n
  ·have hke : k < es.length:=by rw [HL.out]; exact hkn
   obtain ⟨ad,rfl,hab,q0,q1,q2,q3,q4⟩:=(EvsAt.below hE1 (hB.mono hB1.size)).at_ hke
   have hds:=ckEs_step (st:=st) hke
   generalize es[k] = e at *
   obtain ⟨kd,sh,ld,c0,c1⟩:=e
   have HQ:=Lib.hid (And.intro q0 (And.intro q1 (And.intro q2 (And.intro q3 q4))))
   have hab2 : (ad.add (k * 5)).block < wr.heap.size:=by rw [add_block]; have:=hBw.size; omega
   clear q0 q1 q2 q3 q4
   have hall : ckE st ⟨kd,sh,ld,c0,c1⟩ = 0 → ckEs st es = ckEs st (es.drop (k + 1)):=fun h => by rw [hd.out,hds,if_neg (by simpa using h)]
   have hne : ckE st ⟨kd,sh,ld,c0,c1⟩ ≠ 0 → ckL st z0 z1 es = ckE st ⟨kd,sh,ld,c0,c1⟩:=fun h => by rw [H1.out,hd.out,hds,if_pos (by simpa using h)]
   obtain ⟨r,hr⟩ : ∃ r,ckE st ⟨kd,sh,ld,c0,c1⟩ = r:=⟨_,rfl⟩
   rw [hr] at hall hne
   have HR:=Lib.hid hr
   have HALL:=Lib.hid hall
   have HNE:=Lib.hid hne
   clear hds hr hall hne hd hA
   obtain ⟨l0,l1,l2,l3,lf,lz⟩:=kL.four
   go_upto_region 11 with fail
   clear l0 l1 l2 l3 lf lz
   refine AnyG.startC (by kernel_rfl) ?_
   refine AnyG.takeP (i:=1) (v:=?_) rfl (by kernel_rfl) (fun _ _ _ h => h) rfl ?_ ?_
   rotate_left
   ·(intro w'; go_simp; try with_reducible rfl)
   try simp only [Act.put,Sp1,Sp2,Sp3,Sp4,Sp5,Sp6]
   refine AnyG.takeP (i:=3) (v:=?_) rfl (by kernel_rfl) (fun _ _ _ h => h) rfl ?_ ?_
   rotate_left
   ·(intro w'; go_simp; try with_reducible rfl)
   try simp only [Act.put,Sp1,Sp2,Sp3,Sp4,Sp5,Sp6]
   refine AnyG.enter (fun w' : World => Below wr.heap.size wr w') (fun i => true) ?_
   have hS : (fun w' : World => Below wr.heap.size wr w') (World.drew _):=(Below.refl _ _).drew
   refine AnyG.takeC (i:=0) (v:=?_) rfl (by kernel_rfl) (fun _ _ _ h => h) rfl ?_ hS ?_
   rotate_left
   ·(intro w' hSw; (try dsimp only at hSw); obtain ⟨l0,l1,l2,l3,lf,lz⟩:=(kL.call hSw).four; go_simp; try with_reducible rfl)
   try simp only [Act.put,Sp1,Sp2,Sp3,Sp4,Sp5,Sp6]
   refine AnyG.takeC (i:=2) (v:=?_) rfl (by kernel_rfl) (fun _ _ _ h => h) rfl ?_ hS ?_
   rotate_left
   ·(intro w' hSw; (try dsimp only at hSw); obtain ⟨l0,l1,l2,l3,lf,lz⟩:=(kL.call hSw).four; go_simp; try with_reducible rfl)
   try simp only [Act.put,Sp1,Sp2,Sp3,Sp4,Sp5,Sp6]
   refine AnyG.takeC (i:=4) (v:=?_) rfl (by kernel_rfl) (fun _ _ _ h => h) rfl ?_ hS ?_
   rotate_left
   ·(intro w' hSw; (try dsimp only at hSw); go_simp; try with_reducible rfl)
   try simp only [Act.put,Sp1,Sp2,Sp3,Sp4,Sp5,Sp6]
   refine AnyG.takeC (i:=5) (v:=?_) rfl (by kernel_rfl) (fun _ _ _ h => h) rfl ?_ hS ?_
   rotate_left
   ·(intro w' hSw; (try dsimp only at hSw); have q0:=(hSw.cell (p:=ad.add (k * 5)) hab2).trans HQ.out.1; have q1:=(hSw.cell (p:=⟨(ad.add (k * 5)).block,(ad.add (k * 5)).off + 1,none⟩) hab2).trans HQ.out.2.1; have q2:=(hSw.cell (p:=⟨(ad.add (k * 5)).block,(ad.add (k * 5)).off + 2,none⟩) hab2).trans HQ.out.2.2.1; have q3:=(hSw.cell (p:=⟨(ad.add (k * 5)).block,(ad.add (k * 5)).off + 3,none⟩) hab2).trans HQ.out.2.2.2.1; have q4:=(hSw.cell (p:=⟨(ad.add (k * 5)).block,(ad.add (k * 5)).off + 4,none⟩) hab2).trans HQ.out.2.2.2.2; go_simp; try with_reducible rfl)
   try simp only [Act.put,Sp1,Sp2,Sp3,Sp4,Sp5,Sp6]
   refine AnyG.one (i:=6) (by kernel_rfl) rfl rfl ?_
   go_simp
   refine (refEvent_any st z0 z1 _ n c kd sh ld c0 c1 _ hs1 hs2).mono ?_
   rintro er y6 ⟨rfl,hq6⟩
   rw [HR.out]
   have hT:=hS.trans (hq6.mono hS.size)
   clear hS
   have hS:=hT
   clear hT
   refine Onward.on hS (fun hS2 => ?_)
   clear hS
   have hS:=hS2
   clear hS2
   try simp only [Act.put,Sp1,Sp2,Sp3,Sp4,Sp5,Sp6]
   refine AnyG.takeC (i:=7) (v:=?_) rfl (by kernel_rfl) (fun _ _ _ h => h) rfl ?_ hS ?_
   rotate_left
   ·(intro w' hSw; (try dsimp only at hSw); go_simp; try with_reducible rfl)
   try simp only [Act.put,Sp1,Sp2,Sp3,Sp4,Sp5,Sp6]
   refine AnyG.done (by kernel_rfl) ?_ _
   go_simp
   have hB3:=hBw.trans (hS.mono hBw.size)
   have hB4:=hB.trans (hS.mono hB.size)
   by_cases hz0 : r = 0
   ·have hz1 : (r != 0) = false:=by simpa using hz0
    have hd' : Hid (ckEs st es = ckEs st (es.drop (k + 1))):=Lib.hid (HALL.out hz0)
    clear hz0
    go_wp2_with fail
    go_roundw
    case rel => exact ⟨k + 1,by omega,by go_num,hd',hB4⟩
    case measure => simp [intOf]; omega
   ·have hz1 : (r != 0) = true:=by simpa using hz0
    have hd':=Lib.hid (HNE.out hz0)
    clear hz0
    go_wp2_with fail
    go_ret
    first | exact ⟨ret_int hd'.out.symm,hB3⟩ | exact ⟨ret_int (by rw [← H1.out]; exact hd'.out.symm),hB3⟩
  ·have hd' : Hid (ckL st z0 z1 es = 0):=by
    unfold Hid; rw [H1.out,hd.out,List.drop_eq_nil_of_le (by rw [HL.out]; omega)]; rfl
   obtain ⟨l0,l1,l2,l3,lf,lz⟩:=kL.four
   go_wp2_with fail
   go_ret
   first | exact ⟨ret_int hd'.out.symm,hBw⟩ | exact ⟨ret_int (by rw [← H1.out]; exact hd'.out.symm),hBw⟩
end Go.Proofs.Ytgbogdckmfencaa
