/- What a blend weighs and costs, by how much it exceeds limits, whether it keeps them: melt.weigh, excess, keeps, fits, isGood. -/
import Derived.Test.YtmemcopfeabcgaaOc
set_option linter.unusedSimpArgs false
set_option linter.unusedVariables false
namespace Go.Proofs.Ytmemcopfeabcgaa
open Go Go.RowKit
theorem barr_get' {f : Nat → Int} {i : Nat} {z : Int} (h : i < 4) (hz : f i = z) : (barr f)[i]? = some (.int .i64 z):=by rw [← hz]; exact barr_get f h
theorem cellL {B : Nat} {W w1 : World} (hb : Below B W w1) {a : Addr} {v : Value} (ha : a.block < B) (h : W.cell? a = some v) : w1.cell? a = some v:=(hb.cell ha).trans h
theorem Bx.ne {w : World} {g g' t t' : Nat} {cs cs' : Array Value} (h : Bx w g t cs) (h' : Bx w g' t' cs') (ht : t ≠ t') : g ≠ g':=by
 rintro rfl
 unfold Bx at h h'
 rw [h] at h'
 simp only [Option.some.injEq,Obj.cells.injEq] at h'
 exact ht h'.2.1
set_option maxRecDepth 100000 in
set_option maxHeartbeats 1000000 in
theorem weigh_any (LA : Option Addr) (ln lc : Nat) (BA : Option Addr) (bn bc : Nat) (o : Od) (f : Nat → Int) (w : World) (hl : o.lm.length = ln) (hb' : o.bs.length = bn) (hA : OrdAt w w.heap.size LA BA o) (ho : o.Ok) (hf : Six f) :
  Calls Try.prog 59 #[.agg #[.slice LA ln lc,.int .i64 o.le,.int .i64 o.mo,.slice BA bn bc],.agg (barr f)] w fun e w' => e = .returned (.tuple #[.int .i64 (kil o f bn),.int .i64 (cst o f bn)]) ∧ Below w.heap.size w w':=by
 have K1:=(Bx.new w 27 #[.slice LA ln lc,.int .i64 o.le,.int .i64 o.mo,.slice BA bn bc]).alloc (.cells (barr f) 81)
 have K2:=Bx.at (w.alloc (.cells #[.slice LA ln lc,.int .i64 o.le,.int .i64 o.mo,.slice BA bn bc] 27)) 81 (barr f) (n:=w.heap.size + 1) (by simp)
 have B0:=((Below.refl w.heap.size w).alloc (Nat.le_refl _) (.cells #[.slice LA ln lc,.int .i64 o.le,.int .i64 o.mo,.slice BA bn bc] 27)).alloc (by simp) (.cells (barr f) 81)
 have hbn4 : bn ≤ 4:=by rw [← hb']; exact ho.b2
 have HB:=Lib.hid hb'
 have HO:=Lib.hid ho
 have HF:=Lib.hid hf
 clear hb' hl ho hf
 go_enter Try.func59,Try.ntmps59
 go_wp2_with fail
 go_loopw [11,4,5] (fun i a b wr => ∃ (k : Nat) (x y : Int),k ≤ bn ∧ i = .int .i64 k ∧ a = .int .i64 x ∧ b = .int .i64 y ∧ Hid (x = kil o f k ∧ y = cst o f k) ∧ Bx wr (w.heap.size + 1) 81 (barr f) ∧ Below w.heap.size w wr) (fun i _ _ _ => bn - (intOf i).toNat)
 case atStart => exact ⟨0,0,0,by omega,rfl,rfl,rfl,Lib.hid ⟨rfl,rfl⟩,K2,B0⟩
 case round =>
  clear K1 K2 B0
  obtain ⟨k,x,y,hk,rfl,rfl,rfl,hxy,hK,hB⟩:=hrel
  by_cases hkn : k < bn
  ·have hke : k < o.bs.length:=by rw [HB.out]; exact hkn
   have hk4 : k < 4:=by omega
   have hk4i : (k : Int) < 4:=by omega
   have qf:=(hK.cell k).trans (barr_get f hk4)
   obtain ⟨bd,G,gc,rfl,_,q0,q1,q2,q3,_⟩:=((hA.bs.below hB).more hB.size).at_ hke
   have e:=Od.bn_eq hke
   have b1:=w_bd HO.out HF.out hke
   have b2:=c_bd HO.out HF.out hke
   have x1:=kil_bd HO.out HF.out (k:=k) (by omega)
   have y1:=cst_bd HO.out HF.out (k:=k) (by omega)
   rw [← hxy.out.1] at x1
   rw [← hxy.out.2] at y1
   have HX : Hid (x + f k * (o.bn k).w = kil o f (k + 1) ∧ y + f k * (o.bn k).c = cst o f (k + 1)):=by unfold Hid; rw [hxy.out.1,hxy.out.2]; exact ⟨rfl,rfl⟩
   rw [e] at q0 q1 q2 q3
   clear hxy e
   generalize (o.bn k).gr.length = gn at *
   generalize (o.bn k).w = bw at *
   generalize (o.bn k).c = bc' at *
   generalize (o.bn k).g = bg at *
   obtain ⟨fk,hfk⟩ : ∃ fk,f k = fk:=⟨_,rfl⟩
   rw [hfk] at qf b1 b2 HX
   have m1 : IntKind.i64.wrap (fk * bw) = fk * bw:=IntWalk.i64_in _ (by omega)
   have m2 : IntKind.i64.wrap (fk * bc') = fk * bc':=IntWalk.i64_in _ (by omega)
   have m3 : IntKind.i64.wrap (x + fk * bw) = x + fk * bw:=IntWalk.i64_in _ (by omega)
   have m4 : IntKind.i64.wrap (y + fk * bc') = y + fk * bc':=IntWalk.i64_in _ (by omega)
   go_wp2_with fail
   obtain ⟨W1,hW1⟩ : ∃ W1,wr.alloc (.cells #[.slice G gn gc,.int .i64 bw,.int .i64 bc',.int .i64 bg] 42) = W1:=⟨_,rfl⟩
   have kb:=Bx.new wr 42 #[.slice G gn gc,.int .i64 bw,.int .i64 bc',.int .i64 bg]
   have kf:=hK.alloc (.cells #[.slice G gn gc,.int .i64 bw,.int .i64 bc',.int .i64 bg] 42)
   have HB1:=hB.alloc hB.size (.cells #[.slice G gn gc,.int .i64 bw,.int .i64 bc',.int .i64 bg] 42)
   replace qf:=cellA (o:=.cells #[.slice G gn gc,.int .i64 bw,.int .i64 bc',.int .i64 bg] 42) qf
   rw [hW1] at kb kf HB1 qf ⊢
   clear q0 q1 q2 q3 hK
   obtain ⟨q0,q1,q2,q3,_,_⟩:=kb.four
   refine AnyG.startC (by kernel_rfl) ?_
   refine AnyG.takeP (i:=0) (v:=?_) rfl (by kernel_rfl) (fun _ _ _ h => h) rfl ?_ ?_
   rotate_left
   ·(intro w'; go_simp; try with_reducible rfl)
   try simp only [Act.put,Sp1,Sp2,Sp3,Sp4,Sp5,Sp6]
   refine AnyG.takeP (i:=1) (v:=?_) rfl (by kernel_rfl) (fun _ _ _ h => h) rfl ?_ ?_
   rotate_left
   ·(intro w'; go_simp; try with_reducible rfl)
   try simp only [Act.put,Sp1,Sp2,Sp3,Sp4,Sp5,Sp6]
   refine AnyG.takeP (i:=2) (v:=?_) rfl (by kernel_rfl) (fun _ _ _ h => h) rfl ?_ ?_
   rotate_left
   ·(intro w'; go_simp; try with_reducible rfl)
   try simp only [Act.put,Sp1,Sp2,Sp3,Sp4,Sp5,Sp6]
   refine AnyG.takeP (i:=4) (v:=?_) rfl (by kernel_rfl) (fun _ _ _ h => h) rfl ?_ ?_
   rotate_left
   ·(intro w'; go_simp; try with_reducible rfl)
   try simp only [Act.put,Sp1,Sp2,Sp3,Sp4,Sp5,Sp6]
   refine AnyG.enter (fun w' : World => Below W1.heap.size W1 w') (fun i => true) ?_
   have hS : (fun w' : World => Below W1.heap.size W1 w') (World.drew _):=(Below.refl _ _).drew
   refine AnyG.takeC (i:=3) (v:=?_) rfl (by kernel_rfl) (fun _ _ _ h => h) rfl ?_ hS ?_
   rotate_left
   ·(intro w' hSw; (try dsimp only at hSw); have qf:=cellC hSw qf; have q0:=cellC hSw q0; have q1:=cellC hSw q1; have q2:=cellC hSw q2; have q3:=cellC hSw q3; go_simp; try with_reducible rfl)
   try simp only [Act.put,Sp1,Sp2,Sp3,Sp4,Sp5,Sp6]
   refine AnyG.takeC (i:=5) (v:=?_) rfl (by kernel_rfl) (fun _ _ _ h => h) rfl ?_ hS ?_
   rotate_left
   ·(intro w' hSw; (try dsimp only at hSw); have qf:=cellC hSw qf; have q0:=cellC hSw q0; have q1:=cellC hSw q1; have q2:=cellC hSw q2; have q3:=cellC hSw q3; go_simp; try with_reducible rfl)
   try simp only [Act.put,Sp1,Sp2,Sp3,Sp4,Sp5,Sp6]
   refine AnyG.takeC (i:=6) (v:=?_) rfl (by kernel_rfl) (fun _ _ _ h => h) rfl ?_ hS ?_
   rotate_left
   ·(intro w' hSw; (try dsimp only at hSw); go_simp; try with_reducible rfl)
   try simp only [Act.put,Sp1,Sp2,Sp3,Sp4,Sp5,Sp6]
   refine AnyG.takeC (i:=7) (v:=?_) rfl (by kernel_rfl) (fun _ _ _ h => h) rfl ?_ hS ?_
   rotate_left
   ·(intro w' hSw; (try dsimp only at hSw); go_simp; try with_reducible rfl)
   try simp only [Act.put,Sp1,Sp2,Sp3,Sp4,Sp5,Sp6]
   refine AnyG.takeC (i:=8) (v:=?_) rfl (by kernel_rfl) (fun _ _ _ h => h) rfl ?_ hS ?_
   rotate_left
   ·(intro w' hSw; (try dsimp only at hSw); go_simp; try with_reducible rfl)
   try simp only [Act.put,Sp1,Sp2,Sp3,Sp4,Sp5,Sp6]
   refine AnyG.done (by kernel_rfl) ?_ _
   go_simp
   go_wp2_with fail
   obtain ⟨W2,hW2⟩ : ∃ W2,W1.drew = W2:=⟨_,rfl⟩
   replace kb:=kb.drew
   replace kf:=kf.drew
   replace HB1:=HB1.drew
   rw [hW2] at kb kf HB1 ⊢
   clear q0 q1 q2 q3 qf hS hW1
   obtain ⟨q0,q1,q2,q3,_,_⟩:=kb.four
   have qf:=(kf.cell k).trans (barr_get' hk4 hfk)
   refine AnyG.startC (by kernel_rfl) ?_
   refine AnyG.takeP (i:=0) (v:=?_) rfl (by kernel_rfl) (fun _ _ _ h => h) rfl ?_ ?_
   rotate_left
   ·(intro w'; go_simp; try with_reducible rfl)
   try simp only [Act.put,Sp1,Sp2,Sp3,Sp4,Sp5,Sp6]
   refine AnyG.takeP (i:=1) (v:=?_) rfl (by kernel_rfl) (fun _ _ _ h => h) rfl ?_ ?_
   rotate_left
   ·(intro w'; go_simp; try with_reducible rfl)
   try simp only [Act.put,Sp1,Sp2,Sp3,Sp4,Sp5,Sp6]
   refine AnyG.takeP (i:=2) (v:=?_) rfl (by kernel_rfl) (fun _ _ _ h => h) rfl ?_ ?_
   rotate_left
   ·(intro w'; go_simp; try with_reducible rfl)
   try simp only [Act.put,Sp1,Sp2,Sp3,Sp4,Sp5,Sp6]
   refine AnyG.takeP (i:=4) (v:=?_) rfl (by kernel_rfl) (fun _ _ _ h => h) rfl ?_ ?_
   rotate_left
   ·(intro w'; go_simp; try with_reducible rfl)
   try simp only [Act.put,Sp1,Sp2,Sp3,Sp4,Sp5,Sp6]
   refine AnyG.enter (fun w' : World => Below W2.heap.size W2 w') (fun i => true) ?_
   have hS : (fun w' : World => Below W2.heap.size W2 w') (World.drew _):=(Below.refl _ _).drew
   refine AnyG.takeC (i:=3) (v:=?_) rfl (by kernel_rfl) (fun _ _ _ h => h) rfl ?_ hS ?_
   rotate_left
   ·(intro w' hSw; (try dsimp only at hSw); have qf:=cellC hSw qf; have q0:=cellC hSw q0; have q1:=cellC hSw q1; have q2:=cellC hSw q2; have q3:=cellC hSw q3; go_simp; try with_reducible rfl)
   try simp only [Act.put,Sp1,Sp2,Sp3,Sp4,Sp5,Sp6]
   refine AnyG.takeC (i:=5) (v:=?_) rfl (by kernel_rfl) (fun _ _ _ h => h) rfl ?_ hS ?_
   rotate_left
   ·(intro w' hSw; (try dsimp only at hSw); have qf:=cellC hSw qf; have q0:=cellC hSw q0; have q1:=cellC hSw q1; have q2:=cellC hSw q2; have q3:=cellC hSw q3; go_simp; try with_reducible rfl)
   try simp only [Act.put,Sp1,Sp2,Sp3,Sp4,Sp5,Sp6]
   refine AnyG.takeC (i:=6) (v:=?_) rfl (by kernel_rfl) (fun _ _ _ h => h) rfl ?_ hS ?_
   rotate_left
   ·(intro w' hSw; (try dsimp only at hSw); go_simp; try with_reducible rfl)
   try simp only [Act.put,Sp1,Sp2,Sp3,Sp4,Sp5,Sp6]
   refine AnyG.takeC (i:=7) (v:=?_) rfl (by kernel_rfl) (fun _ _ _ h => h) rfl ?_ hS ?_
   rotate_left
   ·(intro w' hSw; (try dsimp only at hSw); go_simp; try with_reducible rfl)
   try simp only [Act.put,Sp1,Sp2,Sp3,Sp4,Sp5,Sp6]
   refine AnyG.takeC (i:=8) (v:=?_) rfl (by kernel_rfl) (fun _ _ _ h => h) rfl ?_ hS ?_
   rotate_left
   ·(intro w' hSw; (try dsimp only at hSw); go_simp; try with_reducible rfl)
   try simp only [Act.put,Sp1,Sp2,Sp3,Sp4,Sp5,Sp6]
   refine AnyG.done (by kernel_rfl) ?_ _
   go_simp
   go_wp2_with fail
   go_roundw
   case rel => exact ⟨k + 1,x + fk * bw,y + fk * bc',by omega,by go_num,by first | rfl | (simp only [m1,m3]),by first | rfl | (simp only [m2,m4]),HX,kf.drew,HB1.drew⟩
   case measure => simp [intOf]; omega
  ·obtain rfl : k = bn:=by omega
   go_wp2_with fail
   have h1:=hxy.out.1
   have h2:=hxy.out.2
   refine bodyPost_ret (v:=.tuple #[.int .i64 x,.int .i64 y]) (by simp [results,Try.results59,go_sem]) rfl ⟨by rw [h1,h2],hB⟩
theorem results_row1 {P : Program} {fn : Func} {p : Tmp} {ty t : TypeId} {tmps : Array Value} {w : World} {g : Nat} {cs : Array Value} {d : TypeDesc} (h : fn.results = #[.cell p ty]) (hp : tmps.getD p undef = .pointer (some ⟨g,0,none⟩)) (hb : Bx w g t cs)
  (hu : P.underlying ty = some d) (hd : (match d with | .struct _ | .array _ _ => true | _ => false) = true) (hi : (P.info? ty).map (·.size) = some cs.size) :
  (results fn tmps).run P w = .ok (.agg cs) w:=by
 have hp' : tmps[p]?.getD undef = .pointer (some ⟨g,0,none⟩):=by simpa using hp
 simp only [results,h]
 simp [Sem.run_bind,Result.andThen,hp',asAddr,run_loadVar_row w g t ty cs (0,0) d hb hu hd hi]
set_option maxRecDepth 100000 in
set_option maxHeartbeats 1000000 in
theorem excess_any (LA : Option Addr) (ln lc : Nat) (BA : Option Addr) (bn bc : Nat) (o : Od) (f : Nat → Int) (j : Nat) (w : World) (hl : o.lm.length = ln) (hb' : o.bs.length = bn) (hA : OrdAt w w.heap.size LA BA o) (ho : o.Ok) (hf : Six f) (hj : j < ln) :
  Calls Try.prog 82 #[.agg #[.slice LA ln lc,.int .i64 o.le,.int .i64 o.mo,.slice BA bn bc],.agg (barr f),.int .i64 j] w fun e w' => e = .returned (.agg #[.int .i64 (exN o f j bn),.int .i64 (exX o f j bn)]) ∧ Below w.heap.size w w':=by
 have K1:=((((Bx.new w 27 #[.slice LA ln lc,.int .i64 o.le,.int .i64 o.mo,.slice BA bn bc]).alloc (.cells (barr f) 81)).alloc (.cells #[.int .i64 0,.int .i64 0] 39)).alloc (.cells #[.int .i64 0,.int .i64 0] 39))
 have K2:=((Bx.at (w.alloc (.cells #[.slice LA ln lc,.int .i64 o.le,.int .i64 o.mo,.slice BA bn bc] 27)) 81 (barr f) (n:=w.heap.size + 1) (by simp)).alloc (.cells #[.int .i64 0,.int .i64 0] 39)).alloc (.cells #[.int .i64 0,.int .i64 0] 39)
 have K3:=(Bx.at ((w.alloc (.cells #[.slice LA ln lc,.int .i64 o.le,.int .i64 o.mo,.slice BA bn bc] 27)).alloc (.cells (barr f) 81)) 39 #[.int .i64 0,.int .i64 0] (n:=w.heap.size + 1 + 1) (by simp)).alloc (.cells #[.int .i64 0,.int .i64 0] 39)
 have K4:=Bx.at (((w.alloc (.cells #[.slice LA ln lc,.int .i64 o.le,.int .i64 o.mo,.slice BA bn bc] 27)).alloc (.cells (barr f) 81)).alloc (.cells #[.int .i64 0,.int .i64 0] 39)) 39 #[.int .i64 0,.int .i64 0] (n:=w.heap.size + 1 + 1 + 1) (by simp)
 have B0:=((((Below.refl w.heap.size w).alloc (Nat.le_refl _) (.cells #[.slice LA ln lc,.int .i64 o.le,.int .i64 o.mo,.slice BA bn bc] 27)).alloc (by simp) (.cells (barr f) 81)).alloc (by simp; omega) (.cells #[.int .i64 0,.int .i64 0] 39)).alloc (by simp; omega) (.cells #[.int .i64 0,.int .i64 0] 39)
 have hbn4 : bn ≤ 4:=by rw [← hb']; exact ho.b2
 have hln3 : ln ≤ 3:=by rw [← hl]; exact ho.lm
 have HB:=Lib.hid hb'
 have HL:=Lib.hid hl
 have HO:=Lib.hid ho
 have HF:=Lib.hid hf
 clear hb' hl ho hf
 go_enter Try.func82,Try.ntmps82
 go_wp2_with fail
 go_loopw [14] (fun i wr => ∃ (k : Nat) (x y : Int),k ≤ bn ∧ i = .int .i64 k ∧ Hid (x = exN o f j k ∧ y = exX o f j k) ∧ Bx wr w.heap.size 27 #[.slice LA ln lc,.int .i64 o.le,.int .i64 o.mo,.slice BA bn bc] ∧ Bx wr (w.heap.size + 1) 81 (barr f) ∧ Bx wr (w.heap.size + 1 + 1) 39 #[.int .i64 0,.int .i64 0] ∧ Bx wr (w.heap.size + 1 + 1 + 1) 39 #[.int .i64 x,.int .i64 y] ∧ Below w.heap.size w wr) (fun i _ => bn - (intOf i).toNat)
 case atStart => exact ⟨0,0,0,by omega,rfl,Lib.hid ⟨rfl,rfl⟩,K1,K2,K3,K4,B0⟩
 case round =>
  clear K1 K2 K3 K4 B0
  obtain ⟨k,x,y,hk,rfl,hxy,k1,k2,k3,k4,hB⟩:=hrel
  by_cases hkn : k < bn
  ·have hke : k < o.bs.length:=by rw [HB.out]; exact hkn
   have hk4 : k < 4:=by omega
   have hk4i : (k : Int) < 4:=by omega
   obtain ⟨fk,hfk⟩ : ∃ fk,f k = fk:=⟨_,rfl⟩
   have qf:=(k2.cell k).trans (barr_get' hk4 hfk)
   obtain ⟨bd,G,gc,rfl,hbd,q0,q1,q2,q3,hS⟩:=(hA.bs.below hB).at_ hke
   have e:=Od.bn_eq hke
   rw [e] at q0 q1 q2 q3 hS
   have hok:=HO.out.bn hke
   have hgl : (o.bn k).gr.length = ln:=hok.len.trans HL.out
   obtain ⟨gd,rfl,hgd,g0,g1⟩:=gnr_at hS (k:=j) (by omega)
   rw [Bn.g_eq (by omega)] at g0 g1
   dsimp only at g0 g1
   obtain ⟨ld,rfl,hld,l0⟩:=inr_at (hA.lm.below hB) (k:=j) (by rw [HL.out]; exact hj)
   rw [Od.li_eq (by rw [HL.out]; exact hj)] at l0
   have hgj:=hok.gj j
   have hlj:=HO.out.li (j:=j)
   have b1:=w_bd HO.out HF.out hke
   have b2:=n_bd HO.out HF.out hke j
   have b3:=x_bd HO.out HF.out hke j
   have x1:=exN_bd HO.out HF.out (j:=j) (k:=k) (by omega)
   have y1:=exX_bd HO.out HF.out (j:=j) (k:=k) (by omega)
   rw [← hxy.out.1] at x1
   rw [← hxy.out.2] at y1
   have HX : Hid (x + f k * (o.bn k).w * ((o.bn k).g1 j - o.li j) = exN o f j (k + 1) ∧ y + f k * (o.bn k).w * ((o.bn k).g2 j - o.li j) = exX o f j (k + 1)):=by unfold Hid; rw [hxy.out.1,hxy.out.2]; exact ⟨rfl,rfl⟩
   rw [hfk] at b1 b2 b3 HX
   clear hxy e hok hS
   rw [hgl] at q0
   clear hgl
   generalize (o.bn k).w = bw at *
   generalize (o.bn k).c = bc' at *
   generalize (o.bn k).g = bg at *
   generalize (o.bn k).g1 j = v1 at *
   generalize (o.bn k).g2 j = v2 at *
   generalize o.li j = lj at *
   have m1 : IntKind.i64.wrap (fk * bw) = fk * bw:=IntWalk.i64_in _ (by omega)
   have m2 : IntKind.i64.wrap (v1 - lj) = v1 - lj:=IntWalk.i64_in _ (by omega)
   have m3 : IntKind.i64.wrap (v2 - lj) = v2 - lj:=IntWalk.i64_in _ (by omega)
   have m4 : IntKind.i64.wrap (fk * bw * (v1 - lj)) = fk * bw * (v1 - lj):=IntWalk.i64_in _ (by omega)
   have m5 : IntKind.i64.wrap (fk * bw * (v2 - lj)) = fk * bw * (v2 - lj):=IntWalk.i64_in _ (by omega)
   have m6 : IntKind.i64.wrap (x + fk * bw * (v1 - lj)) = x + fk * bw * (v1 - lj):=IntWalk.i64_in _ (by omega)
   have m7 : IntKind.i64.wrap (y + fk * bw * (v2 - lj)) = y + fk * bw * (v2 - lj):=IntWalk.i64_in _ (by omega)
   have hji : (j : Int) < ln:=by omega
   go_wp2_with fail
   obtain ⟨W1,hW1⟩ : ∃ W1,wr.alloc (.cells #[.slice (some gd) ln gc,.int .i64 bw,.int .i64 bc',.int .i64 bg] 42) = W1:=⟨_,rfl⟩
   have kb:=Bx.new wr 42 #[.slice (some gd) ln gc,.int .i64 bw,.int .i64 bc',.int .i64 bg]
   replace k1:=k1.alloc (.cells #[.slice (some gd) ln gc,.int .i64 bw,.int .i64 bc',.int .i64 bg] 42)
   replace k2:=k2.alloc (.cells #[.slice (some gd) ln gc,.int .i64 bw,.int .i64 bc',.int .i64 bg] 42)
   replace k3:=k3.alloc (.cells #[.slice (some gd) ln gc,.int .i64 bw,.int .i64 bc',.int .i64 bg] 42)
   replace k4:=k4.alloc (.cells #[.slice (some gd) ln gc,.int .i64 bw,.int .i64 bc',.int .i64 bg] 42)
   have HB1:=hB.alloc hB.size (.cells #[.slice (some gd) ln gc,.int .i64 bw,.int .i64 bc',.int .i64 bg] 42)
   replace qf:=cellA (o:=.cells #[.slice (some gd) ln gc,.int .i64 bw,.int .i64 bc',.int .i64 bg] 42) qf
   replace g0:=cellA (o:=.cells #[.slice (some gd) ln gc,.int .i64 bw,.int .i64 bc',.int .i64 bg] 42) g0
   replace g1:=cellA (o:=.cells #[.slice (some gd) ln gc,.int .i64 bw,.int .i64 bc',.int .i64 bg] 42) g1
   replace l0:=cellA (o:=.cells #[.slice (some gd) ln gc,.int .i64 bw,.int .i64 bc',.int .i64 bg] 42) l0
   rw [hW1] at kb k1 k2 k3 k4 HB1 qf g0 g1 l0 ⊢
   clear q0 q1 q2 q3
   obtain ⟨q0,q1,q2,q3,_,_⟩:=kb.four
   refine AnyG.startC (by kernel_rfl) ?_
   refine AnyG.takeP (i:=0) (v:=?_) rfl (by kernel_rfl) (fun _ _ _ h => h) rfl ?_ ?_
   rotate_left
   ·(intro w'; go_simp; try with_reducible rfl)
   try simp only [Act.put,Sp1,Sp2,Sp3,Sp4,Sp5,Sp6]
   refine AnyG.takeP (i:=1) (v:=?_) rfl (by kernel_rfl) (fun _ _ _ h => h) rfl ?_ ?_
   rotate_left
   ·(intro w'; go_simp; try with_reducible rfl)
   try simp only [Act.put,Sp1,Sp2,Sp3,Sp4,Sp5,Sp6]
   refine AnyG.takeP (i:=3) (v:=?_) rfl (by kernel_rfl) (fun _ _ _ h => h) rfl ?_ ?_
   rotate_left
   ·(intro w'; go_simp; try with_reducible rfl)
   try simp only [Act.put,Sp1,Sp2,Sp3,Sp4,Sp5,Sp6]
   refine AnyG.enter (fun w' : World => Below W1.heap.size W1 w') (fun i => true) ?_
   have hS : (fun w' : World => Below W1.heap.size W1 w') (World.drew _):=(Below.refl _ _).drew
   refine AnyG.takeC (i:=2) (v:=?_) rfl (by kernel_rfl) (fun _ _ _ h => h) rfl ?_ hS ?_
   rotate_left
   ·(intro w' hSw; (try dsimp only at hSw); have qf:=cellC hSw qf; have q0:=cellC hSw q0; have q1:=cellC hSw q1; have q2:=cellC hSw q2; have q3:=cellC hSw q3; go_simp; try with_reducible rfl)
   try simp only [Act.put,Sp1,Sp2,Sp3,Sp4,Sp5,Sp6]
   refine AnyG.takeC (i:=4) (v:=?_) rfl (by kernel_rfl) (fun _ _ _ h => h) rfl ?_ hS ?_
   rotate_left
   ·(intro w' hSw; (try dsimp only at hSw); have qf:=cellC hSw qf; have q0:=cellC hSw q0; have q1:=cellC hSw q1; have q2:=cellC hSw q2; have q3:=cellC hSw q3; go_simp; try with_reducible rfl)
   try simp only [Act.put,Sp1,Sp2,Sp3,Sp4,Sp5,Sp6]
   refine AnyG.takeC (i:=5) (v:=?_) rfl (by kernel_rfl) (fun _ _ _ h => h) rfl ?_ hS ?_
   rotate_left
   ·(intro w' hSw; (try dsimp only at hSw); go_simp; try with_reducible rfl)
   try simp only [Act.put,Sp1,Sp2,Sp3,Sp4,Sp5,Sp6]
   refine AnyG.takeC (i:=6) (v:=?_) rfl (by kernel_rfl) (fun _ _ _ h => h) rfl ?_ hS ?_
   rotate_left
   ·(intro w' hSw; (try dsimp only at hSw); go_simp; try with_reducible rfl)
   try simp only [Act.put,Sp1,Sp2,Sp3,Sp4,Sp5,Sp6]
   refine AnyG.done (by kernel_rfl) ?_ _
   go_simp
   go_wp2_with fail
   have HD : Below W1.heap.size W1 W1.drew:=(Below.refl _ _).drew
   replace g0:=cellC HD g0
   replace g1:=cellC HD g1
   replace l0:=cellC HD l0
   replace kb:=kb.drew
   replace k1:=k1.drew
   replace k2:=k2.drew
   replace k3:=k3.drew
   replace k4:=k4.drew
   replace HB1:=HB1.drew
   obtain ⟨W2,hW2⟩ : ∃ W2,W1.drew = W2:=⟨_,rfl⟩
   rw [hW2] at kb k1 k2 k3 k4 HB1 g0 g1 l0 ⊢
   clear q0 q1 q2 q3 qf hS hW1 HD
   obtain ⟨q0,q1,q2,q3,_,_⟩:=kb.four
   obtain ⟨o0,o1,o2,o3,_,_⟩:=k1.four
   obtain ⟨r0,r1,rf,rz⟩:=k4.two
   refine AnyG.startC (by kernel_rfl) ?_
   refine AnyG.takeP (i:=0) (v:=?_) rfl (by kernel_rfl) (fun _ _ _ h => h) rfl ?_ ?_
   rotate_left
   ·(intro w'; go_simp; try with_reducible rfl)
   try simp only [Act.put,Sp1,Sp2,Sp3,Sp4,Sp5,Sp6]
   refine AnyG.takeP (i:=2) (v:=?_) rfl (by kernel_rfl) (fun _ _ _ h => h) rfl ?_ ?_
   rotate_left
   ·(intro w'; go_simp; try with_reducible rfl)
   try simp only [Act.put,Sp1,Sp2,Sp3,Sp4,Sp5,Sp6]
   refine AnyG.takeP (i:=3) (v:=?_) rfl (by kernel_rfl) (fun _ _ _ h => h) rfl ?_ ?_
   rotate_left
   ·(intro w'; go_simp; try with_reducible rfl)
   try simp only [Act.put,Sp1,Sp2,Sp3,Sp4,Sp5,Sp6]
   refine AnyG.takeP (i:=5) (v:=?_) rfl (by kernel_rfl) (fun _ _ _ h => h) rfl ?_ ?_
   rotate_left
   ·(intro w'; go_simp; try with_reducible rfl)
   try simp only [Act.put,Sp1,Sp2,Sp3,Sp4,Sp5,Sp6]
   refine AnyG.takeP (i:=9) (v:=?_) rfl (by kernel_rfl) (fun _ _ _ h => h) rfl ?_ ?_
   rotate_left
   ·(intro w'; go_simp; try with_reducible rfl)
   try simp only [Act.put,Sp1,Sp2,Sp3,Sp4,Sp5,Sp6]
   refine AnyG.takeP (i:=11) (v:=?_) rfl (by kernel_rfl) (fun _ _ _ h => h) rfl ?_ ?_
   rotate_left
   ·(intro w'; go_simp; try with_reducible rfl)
   try simp only [Act.put,Sp1,Sp2,Sp3,Sp4,Sp5,Sp6]
   refine AnyG.enter (fun w' : World => Below W2.heap.size W2 w') (fun i => i != 18) ?_
   have hS : (fun w' : World => Below W2.heap.size W2 w') (World.drew _):=(Below.refl _ _).drew
   refine AnyG.takeC (i:=1) (v:=?_) rfl (by kernel_rfl) (fun _ _ _ h => h) rfl ?_ hS ?_
   rotate_left
   ·(intro w' hSw; (try dsimp only at hSw); have q0:=cellC hSw q0; have q1:=cellC hSw q1; have q2:=cellC hSw q2; have q3:=cellC hSw q3; have r0:=cellC hSw r0; have r1:=cellC hSw r1; have o0:=cellC hSw o0; have o1:=cellC hSw o1; have o2:=cellC hSw o2; have o3:=cellC hSw o3; have g0:=cellC hSw g0; have g1:=cellC hSw g1; have l0:=cellC hSw l0; go_simp; try with_reducible rfl)
   try simp only [Act.put,Sp1,Sp2,Sp3,Sp4,Sp5,Sp6]
   refine AnyG.takeC (i:=4) (v:=?_) rfl (by kernel_rfl) (fun _ _ _ h => h) rfl ?_ hS ?_
   rotate_left
   ·(intro w' hSw; (try dsimp only at hSw); have q0:=cellC hSw q0; have q1:=cellC hSw q1; have q2:=cellC hSw q2; have q3:=cellC hSw q3; have r0:=cellC hSw r0; have r1:=cellC hSw r1; have o0:=cellC hSw o0; have o1:=cellC hSw o1; have o2:=cellC hSw o2; have o3:=cellC hSw o3; have g0:=cellC hSw g0; have g1:=cellC hSw g1; have l0:=cellC hSw l0; go_simp; try with_reducible rfl)
   try simp only [Act.put,Sp1,Sp2,Sp3,Sp4,Sp5,Sp6]
   refine AnyG.takeC (i:=6) (v:=?_) rfl (by kernel_rfl) (fun _ _ _ h => h) rfl ?_ hS ?_
   rotate_left
   ·(intro w' hSw; (try dsimp only at hSw); go_simp; try with_reducible rfl)
   try simp only [Act.put,Sp1,Sp2,Sp3,Sp4,Sp5,Sp6]
   refine AnyG.takeC (i:=7) (v:=?_) rfl (by kernel_rfl) (fun _ _ _ h => h) rfl ?_ hS ?_
   rotate_left
   ·(intro w' hSw; (try dsimp only at hSw); go_simp; try with_reducible rfl)
   try simp only [Act.put,Sp1,Sp2,Sp3,Sp4,Sp5,Sp6]
   refine AnyG.takeC (i:=8) (v:=?_) rfl (by kernel_rfl) (fun _ _ _ h => h) rfl ?_ hS ?_
   rotate_left
   ·(intro w' hSw; (try dsimp only at hSw); have q0:=cellC hSw q0; have q1:=cellC hSw q1; have q2:=cellC hSw q2; have q3:=cellC hSw q3; have r0:=cellC hSw r0; have r1:=cellC hSw r1; have o0:=cellC hSw o0; have o1:=cellC hSw o1; have o2:=cellC hSw o2; have o3:=cellC hSw o3; have g0:=cellC hSw g0; have g1:=cellC hSw g1; have l0:=cellC hSw l0; go_simp; try with_reducible rfl)
   try simp only [Act.put,Sp1,Sp2,Sp3,Sp4,Sp5,Sp6]
   refine AnyG.takeC (i:=10) (v:=?_) rfl (by kernel_rfl) (fun _ _ _ h => h) rfl ?_ hS ?_
   rotate_left
   ·(intro w' hSw; (try dsimp only at hSw); have q0:=cellC hSw q0; have q1:=cellC hSw q1; have q2:=cellC hSw q2; have q3:=cellC hSw q3; have r0:=cellC hSw r0; have r1:=cellC hSw r1; have o0:=cellC hSw o0; have o1:=cellC hSw o1; have o2:=cellC hSw o2; have o3:=cellC hSw o3; have g0:=cellC hSw g0; have g1:=cellC hSw g1; have l0:=cellC hSw l0; go_simp; try with_reducible rfl)
   try simp only [Act.put,Sp1,Sp2,Sp3,Sp4,Sp5,Sp6]
   refine AnyG.takeC (i:=12) (v:=?_) rfl (by kernel_rfl) (fun _ _ _ h => h) rfl ?_ hS ?_
   rotate_left
   ·(intro w' hSw; (try dsimp only at hSw); go_simp; try with_reducible rfl)
   try simp only [Act.put,Sp1,Sp2,Sp3,Sp4,Sp5,Sp6]
   refine AnyG.takeC (i:=13) (v:=?_) rfl (by kernel_rfl) (fun _ _ _ h => h) rfl ?_ hS ?_
   rotate_left
   ·(intro w' hSw; (try dsimp only at hSw); have q0:=cellC hSw q0; have q1:=cellC hSw q1; have q2:=cellC hSw q2; have q3:=cellC hSw q3; have r0:=cellC hSw r0; have r1:=cellC hSw r1; have o0:=cellC hSw o0; have o1:=cellC hSw o1; have o2:=cellC hSw o2; have o3:=cellC hSw o3; have g0:=cellC hSw g0; have g1:=cellC hSw g1; have l0:=cellC hSw l0; go_simp; try with_reducible rfl)
   try simp only [Act.put,Sp1,Sp2,Sp3,Sp4,Sp5,Sp6]
   refine AnyG.takeC (i:=14) (v:=?_) rfl (by kernel_rfl) (fun _ _ _ h => h) rfl ?_ hS ?_
   rotate_left
   ·(intro w' hSw; (try dsimp only at hSw); go_simp; try with_reducible rfl)
   try simp only [Act.put,Sp1,Sp2,Sp3,Sp4,Sp5,Sp6]
   refine AnyG.takeC (i:=15) (v:=?_) rfl (by kernel_rfl) (fun _ _ _ h => h) rfl ?_ hS ?_
   rotate_left
   ·(intro w' hSw; (try dsimp only at hSw); go_simp; try with_reducible rfl)
   try simp only [Act.put,Sp1,Sp2,Sp3,Sp4,Sp5,Sp6]
   refine AnyG.takeC (i:=16) (v:=?_) rfl (by kernel_rfl) (fun _ _ _ h => h) rfl ?_ hS ?_
   rotate_left
   ·(intro w' hSw; (try dsimp only at hSw); go_simp; try with_reducible rfl)
   try simp only [Act.put,Sp1,Sp2,Sp3,Sp4,Sp5,Sp6]
   refine AnyG.takeC (i:=17) (v:=?_) rfl (by kernel_rfl) (fun _ _ _ h => h) rfl ?_ hS ?_
   rotate_left
   ·(intro w' hSw; (try dsimp only at hSw); go_simp; try with_reducible rfl)
   try simp only [Act.put,Sp1,Sp2,Sp3,Sp4,Sp5,Sp6]
   refine AnyG.one (i:=18) (by kernel_rfl) rfl rfl ?_
   go_simp
   refine Onward.last rfl ?_
   try simp only [Act.put,Sp1,Sp2,Sp3,Sp4,Sp5,Sp6]
   refine AnyG.done (by kernel_rfl) ?_ _
   go_simp
   go_wp2_with fail
   have n1:=k4.ne k1 (by decide)
   have n2:=k4.ne k2 (by decide)
   have n4:=k4.ne kb (by decide)
   have HK : Below w.heap.size W2 (W2.setCell ⟨w.heap.size + 1 + 1 + 1,0,none⟩ (.int .i64 (x + fk * bw * (v1 - lj)))).drew:=((Below.refl _ _).setCell (by simp; omega) _).drew
   replace HB1:=HB1.trans HK
   replace g0:=cellL HK (by rw [add_block]; exact hgd) g0
   replace g1:=cellL HK (by simpa [add_block] using hgd) g1
   replace l0:=cellL HK (by rw [add_block]; exact hld) l0
   replace kb:=(kb.far (p:=⟨w.heap.size + 1 + 1 + 1,0,none⟩) (by simp; omega) (.int .i64 (x + fk * bw * (v1 - lj)))).drew
   replace k1:=(k1.far (p:=⟨w.heap.size + 1 + 1 + 1,0,none⟩) (by simp; omega) (.int .i64 (x + fk * bw * (v1 - lj)))).drew
   replace k2:=(k2.far (p:=⟨w.heap.size + 1 + 1 + 1,0,none⟩) (by simp) (.int .i64 (x + fk * bw * (v1 - lj)))).drew
   replace k3:=(k3.far (p:=⟨w.heap.size + 1 + 1 + 1,0,none⟩) (by simp) (.int .i64 (x + fk * bw * (v1 - lj)))).drew
   replace k4:=(k4.set_ 0 (.int .i64 (x + fk * bw * (v1 - lj)))).drew
   obtain ⟨W3,hW3⟩ : ∃ W3,(W2.setCell ⟨w.heap.size + 1 + 1 + 1,0,none⟩ (.int .i64 (x + fk * bw * (v1 - lj)))).drew = W3:=⟨_,rfl⟩
   rw [hW3] at kb k1 k2 k3 k4 HB1 g0 g1 l0 ⊢
   simp only [Sp4,Sp5] at k4
   clear q0 q1 q2 q3 o0 o1 o2 o3 r0 r1 rf rz hS hW3 HK hW2
   obtain ⟨q0,q1,q2,q3,_,_⟩:=kb.four
   obtain ⟨o0,o1,o2,o3,_,_⟩:=k1.four
   obtain ⟨r0,r1,rf,rz⟩:=k4.two
   refine AnyG.startC (by kernel_rfl) ?_
   refine AnyG.takeP (i:=0) (v:=?_) rfl (by kernel_rfl) (fun _ _ _ h => h) rfl ?_ ?_
   rotate_left
   ·(intro w'; go_simp; try with_reducible rfl)
   try simp only [Act.put,Sp1,Sp2,Sp3,Sp4,Sp5,Sp6]
   refine AnyG.takeP (i:=2) (v:=?_) rfl (by kernel_rfl) (fun _ _ _ h => h) rfl ?_ ?_
   rotate_left
   ·(intro w'; go_simp; try with_reducible rfl)
   try simp only [Act.put,Sp1,Sp2,Sp3,Sp4,Sp5,Sp6]
   refine AnyG.takeP (i:=3) (v:=?_) rfl (by kernel_rfl) (fun _ _ _ h => h) rfl ?_ ?_
   rotate_left
   ·(intro w'; go_simp; try with_reducible rfl)
   try simp only [Act.put,Sp1,Sp2,Sp3,Sp4,Sp5,Sp6]
   refine AnyG.takeP (i:=5) (v:=?_) rfl (by kernel_rfl) (fun _ _ _ h => h) rfl ?_ ?_
   rotate_left
   ·(intro w'; go_simp; try with_reducible rfl)
   try simp only [Act.put,Sp1,Sp2,Sp3,Sp4,Sp5,Sp6]
   refine AnyG.takeP (i:=9) (v:=?_) rfl (by kernel_rfl) (fun _ _ _ h => h) rfl ?_ ?_
   rotate_left
   ·(intro w'; go_simp; try with_reducible rfl)
   try simp only [Act.put,Sp1,Sp2,Sp3,Sp4,Sp5,Sp6]
   refine AnyG.takeP (i:=11) (v:=?_) rfl (by kernel_rfl) (fun _ _ _ h => h) rfl ?_ ?_
   rotate_left
   ·(intro w'; go_simp; try with_reducible rfl)
   try simp only [Act.put,Sp1,Sp2,Sp3,Sp4,Sp5,Sp6]
   refine AnyG.enter (fun w' : World => Below W3.heap.size W3 w') (fun i => i != 18) ?_
   have hS : (fun w' : World => Below W3.heap.size W3 w') (World.drew _):=(Below.refl _ _).drew
   refine AnyG.takeC (i:=1) (v:=?_) rfl (by kernel_rfl) (fun _ _ _ h => h) rfl ?_ hS ?_
   rotate_left
   ·(intro w' hSw; (try dsimp only at hSw); have q0:=cellC hSw q0; have q1:=cellC hSw q1; have q2:=cellC hSw q2; have q3:=cellC hSw q3; have r0:=cellC hSw r0; have r1:=cellC hSw r1; have o0:=cellC hSw o0; have o1:=cellC hSw o1; have o2:=cellC hSw o2; have o3:=cellC hSw o3; have g0:=cellC hSw g0; have g1:=cellC hSw g1; have l0:=cellC hSw l0; go_simp; try with_reducible rfl)
   try simp only [Act.put,Sp1,Sp2,Sp3,Sp4,Sp5,Sp6]
   refine AnyG.takeC (i:=4) (v:=?_) rfl (by kernel_rfl) (fun _ _ _ h => h) rfl ?_ hS ?_
   rotate_left
   ·(intro w' hSw; (try dsimp only at hSw); have q0:=cellC hSw q0; have q1:=cellC hSw q1; have q2:=cellC hSw q2; have q3:=cellC hSw q3; have r0:=cellC hSw r0; have r1:=cellC hSw r1; have o0:=cellC hSw o0; have o1:=cellC hSw o1; have o2:=cellC hSw o2; have o3:=cellC hSw o3; have g0:=cellC hSw g0; have g1:=cellC hSw g1; have l0:=cellC hSw l0; go_simp; try with_reducible rfl)
   try simp only [Act.put,Sp1,Sp2,Sp3,Sp4,Sp5,Sp6]
   refine AnyG.takeC (i:=6) (v:=?_) rfl (by kernel_rfl) (fun _ _ _ h => h) rfl ?_ hS ?_
   rotate_left
   ·(intro w' hSw; (try dsimp only at hSw); go_simp; try with_reducible rfl)
   try simp only [Act.put,Sp1,Sp2,Sp3,Sp4,Sp5,Sp6]
   refine AnyG.takeC (i:=7) (v:=?_) rfl (by kernel_rfl) (fun _ _ _ h => h) rfl ?_ hS ?_
   rotate_left
   ·(intro w' hSw; (try dsimp only at hSw); go_simp; try with_reducible rfl)
   try simp only [Act.put,Sp1,Sp2,Sp3,Sp4,Sp5,Sp6]
   refine AnyG.takeC (i:=8) (v:=?_) rfl (by kernel_rfl) (fun _ _ _ h => h) rfl ?_ hS ?_
   rotate_left
   ·(intro w' hSw; (try dsimp only at hSw); have q0:=cellC hSw q0; have q1:=cellC hSw q1; have q2:=cellC hSw q2; have q3:=cellC hSw q3; have r0:=cellC hSw r0; have r1:=cellC hSw r1; have o0:=cellC hSw o0; have o1:=cellC hSw o1; have o2:=cellC hSw o2; have o3:=cellC hSw o3; have g0:=cellC hSw g0; have g1:=cellC hSw g1; have l0:=cellC hSw l0; go_simp; try with_reducible rfl)
   try simp only [Act.put,Sp1,Sp2,Sp3,Sp4,Sp5,Sp6]
   refine AnyG.takeC (i:=10) (v:=?_) rfl (by kernel_rfl) (fun _ _ _ h => h) rfl ?_ hS ?_
   rotate_left
   ·(intro w' hSw; (try dsimp only at hSw); have q0:=cellC hSw q0; have q1:=cellC hSw q1; have q2:=cellC hSw q2; have q3:=cellC hSw q3; have r0:=cellC hSw r0; have r1:=cellC hSw r1; have o0:=cellC hSw o0; have o1:=cellC hSw o1; have o2:=cellC hSw o2; have o3:=cellC hSw o3; have g0:=cellC hSw g0; have g1:=cellC hSw g1; have l0:=cellC hSw l0; go_simp; try with_reducible rfl)
   try simp only [Act.put,Sp1,Sp2,Sp3,Sp4,Sp5,Sp6]
   refine AnyG.takeC (i:=12) (v:=?_) rfl (by kernel_rfl) (fun _ _ _ h => h) rfl ?_ hS ?_
   rotate_left
   ·(intro w' hSw; (try dsimp only at hSw); go_simp; try with_reducible rfl)
   try simp only [Act.put,Sp1,Sp2,Sp3,Sp4,Sp5,Sp6]
   refine AnyG.takeC (i:=13) (v:=?_) rfl (by kernel_rfl) (fun _ _ _ h => h) rfl ?_ hS ?_
   rotate_left
   ·(intro w' hSw; (try dsimp only at hSw); have q0:=cellC hSw q0; have q1:=cellC hSw q1; have q2:=cellC hSw q2; have q3:=cellC hSw q3; have r0:=cellC hSw r0; have r1:=cellC hSw r1; have o0:=cellC hSw o0; have o1:=cellC hSw o1; have o2:=cellC hSw o2; have o3:=cellC hSw o3; have g0:=cellC hSw g0; have g1:=cellC hSw g1; have l0:=cellC hSw l0; go_simp; try with_reducible rfl)
   try simp only [Act.put,Sp1,Sp2,Sp3,Sp4,Sp5,Sp6]
   refine AnyG.takeC (i:=14) (v:=?_) rfl (by kernel_rfl) (fun _ _ _ h => h) rfl ?_ hS ?_
   rotate_left
   ·(intro w' hSw; (try dsimp only at hSw); go_simp; try with_reducible rfl)
   try simp only [Act.put,Sp1,Sp2,Sp3,Sp4,Sp5,Sp6]
   refine AnyG.takeC (i:=15) (v:=?_) rfl (by kernel_rfl) (fun _ _ _ h => h) rfl ?_ hS ?_
   rotate_left
   ·(intro w' hSw; (try dsimp only at hSw); go_simp; try with_reducible rfl)
   try simp only [Act.put,Sp1,Sp2,Sp3,Sp4,Sp5,Sp6]
   refine AnyG.takeC (i:=16) (v:=?_) rfl (by kernel_rfl) (fun _ _ _ h => h) rfl ?_ hS ?_
   rotate_left
   ·(intro w' hSw; (try dsimp only at hSw); go_simp; try with_reducible rfl)
   try simp only [Act.put,Sp1,Sp2,Sp3,Sp4,Sp5,Sp6]
   refine AnyG.takeC (i:=17) (v:=?_) rfl (by kernel_rfl) (fun _ _ _ h => h) rfl ?_ hS ?_
   rotate_left
   ·(intro w' hSw; (try dsimp only at hSw); go_simp; try with_reducible rfl)
   try simp only [Act.put,Sp1,Sp2,Sp3,Sp4,Sp5,Sp6]
   refine AnyG.one (i:=18) (by kernel_rfl) rfl rfl ?_
   go_simp
   refine Onward.last rfl ?_
   try simp only [Act.put,Sp1,Sp2,Sp3,Sp4,Sp5,Sp6]
   refine AnyG.done (by kernel_rfl) ?_ _
   go_simp
   go_wp2_with fail
   go_roundw
   case rel => exact ⟨k + 1,x + fk * bw * (v1 - lj),y + fk * bw * (v2 - lj),by omega,by go_num,HX,(k1.far (p:=⟨w.heap.size + 1 + 1 + 1,1,none⟩) (by simp; omega) _).drew,(k2.far (p:=⟨w.heap.size + 1 + 1 + 1,1,none⟩) (by simp) _).drew,(k3.far (p:=⟨w.heap.size + 1 + 1 + 1,1,none⟩) (by simp) _).drew,(by simpa using (k4.set_ 1 (.int .i64 (y + fk * bw * (v2 - lj)))).drew),(HB1.setCell (by simp; omega) _).drew⟩
   case measure => simp [intOf]; omega
  ·obtain rfl : k = bn:=by omega
   obtain ⟨r0,r1,rf,rz⟩:=k4.two
   have n34 : Bx wr (w.heap.size + 1 + 1) 39 #[.int .i64 0,.int .i64 0]:=k3
   obtain ⟨s0,s1,sf,sz⟩:=k3.two
   obtain ⟨rfl,rfl⟩:=hxy.out
   go_wp2_with fail
   refine bodyPost_ret (v:=.agg #[.int .i64 (exN o f j k),.int .i64 (exX o f j k)]) (by simp [results,Try.results82,go_sem,s0,s1,sf,r0,r1]) rfl ⟨rfl,(hB.setCell (by simp; omega) _).setCell (by simp; omega) _⟩
end Go.Proofs.Ytmemcopfeabcgaa
