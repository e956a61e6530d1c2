/- Boxes of blends: melt.box.isOne, cut, middle, after, blends; wholeBox. -/
import Derived.Test.YtmemcopfeabcgaaLxM
import Derived.DeepKeys
import Derived.Test.YtmemcopfeabcgaaOc
import Derived.RangeFuncNested
import Derived.RangeFuncBound
import Derived.RangeFuncCalls
import Derived.RangeFuncLeaves
import Derived.Shelf.Abstract
import Derived.Shelf.RegionOpen
import Derived.OwnWalkIn
import Derived.TacticsInMore
import Derived.LoopNIn
import Derived.LoopIn
set_option linter.unusedSimpArgs false
set_option linter.unusedVariables false
namespace Go.Proofs.Ytmemcopfeabcgaa
open Go Go.RowKit
theorem lit_wf {n : Int} (h : 0 ≤ n ∧ n ≤ 6) : (Lit.int .i64 n).wf = true:=by
 have h1 : IntKind.i64.min = -9223372036854775808:=by kernel_rfl
 have h2 : IntKind.i64.max = 9223372036854775807:=by kernel_rfl
 show (decide (IntKind.i64.min ≤ n) && decide (n ≤ IntKind.i64.max)) = true
 rw [h1,h2]
 simp
 omega
theorem kl3 {d : Nat} {n : Int} (h : 0 ≤ n ∧ n ≤ 6) : Try.prog.keyLits (d + 1) 3 [.int .i64 n] = some [.int .i64 n]:=by
 simp [Program.keyLits,Try.underlying3,lit_wf h]
theorem kl39 {d : Nat} {a b : Int} (ha : 0 ≤ a ∧ a ≤ 6) (hb : 0 ≤ b ∧ b ≤ 6) : Try.prog.keyLits (d + 1 + 1) 39 [.int .i64 a,.int .i64 b] = some [.int .i64 a,.int .i64 b]:=by
 have hc : Try.prog.cellsOf 39 = 2:=by kernel_rfl
 have h3 : Try.prog.cellsOf 3 = 1:=by kernel_rfl
 unfold Program.keyLits
 simp only [Try.underlying39]
 simp [hc,h3,kl3 ha,kl3 hb]
theorem kl91 {lo hi : Nat → Int} (h : BoxOk lo hi) : Try.prog.keyLits 10 91 [.int .i64 (lo 0),.int .i64 (hi 0),.int .i64 (lo 1),.int .i64 (hi 1),.int .i64 (lo 2),.int .i64 (hi 2),.int .i64 (lo 3),.int .i64 (hi 3)] = some [.int .i64 (lo 0),.int .i64 (hi 0),.int .i64 (lo 1),.int .i64 (hi 1),.int .i64 (lo 2),.int .i64 (hi 2),.int .i64 (lo 3),.int .i64 (hi 3)]:=by
 have hc : Try.prog.cellsOf 91 = 8:=by kernel_rfl
 have h3 : Try.prog.cellsOf 39 = 2:=by kernel_rfl
 unfold Program.keyLits
 simp only [Try.underlying91]
 simp [hc,h3,List.range,List.range.loop,kl39 (h.six _) (h.six2 _)]
theorem box_eq (lo hi : Nat → Int) (h : BoxOk lo hi) (w : World) : (Op.equalIn 10000 91 (.agg (xarr lo hi)) (.agg (xarr lo lo))).run Try.prog w = .ok (one4 lo hi) w:=by
 rw [xarr_def,xarr_def]
 have h:=run_equalIn_deep (P:=Try.prog) 9990 10 91 (by kernel_rfl) w 10 10 (.agg #[.int .i64 (lo 0),.int .i64 (hi 0),.int .i64 (lo 1),.int .i64 (hi 1),.int .i64 (lo 2),.int .i64 (hi 2),.int .i64 (lo 3),.int .i64 (hi 3)]) (.agg #[.int .i64 (lo 0),.int .i64 (lo 0),.int .i64 (lo 1),.int .i64 (lo 1),.int .i64 (lo 2),.int .i64 (lo 2),.int .i64 (lo 3),.int .i64 (lo 3)]) [.int .i64 (lo 0),.int .i64 (hi 0),.int .i64 (lo 1),.int .i64 (hi 1),.int .i64 (lo 2),.int .i64 (hi 2),.int .i64 (lo 3),.int .i64 (hi 3)] [.int .i64 (lo 0),.int .i64 (lo 0),.int .i64 (lo 1),.int .i64 (lo 1),.int .i64 (lo 2),.int .i64 (lo 2),.int .i64 (lo 3),.int .i64 (lo 3)] (by kernel_rfl) (by kernel_rfl) (kl91 h) (kl91 ⟨h.six,h.six,fun _ _ => Int.le_refl _⟩)
 obtain ⟨r,h1,h2⟩:=h
 have : r = one4 lo hi:=by
  rw [Bool.eq_iff_iff,h2]
  simp [one4]
  omega
 rw [← this]
 exact h1
set_option maxRecDepth 100000 in
set_option maxHeartbeats 2000000 in
theorem isOne_any (lo hi : Nat → Int) (w : World) (h : BoxOk lo hi) :
  Calls Try.prog 98 #[.agg (xarr lo hi)] w fun e w' => e = .returned (.bool (one4 lo hi)) ∧ Below w.heap.size w w':=by
 have HB:=Lib.hid h
 clear h
 have K1:=Bx.new w 91 (xarr lo hi)
 have B0:=(Below.refl w.heap.size w).alloc (Nat.le_refl _) (.cells (xarr lo hi) 91)
 obtain ⟨p0,p1,p2,p3,p4,p5,p6,p7,pf,pz⟩:=K1.xarr
 go_enter Try.func98,Try.ntmps98
 go_wp2_with fail
 obtain ⟨w1,hw1⟩ : ∃ w1,w.alloc (.cells (xarr lo hi) 91) = w1:=⟨_,rfl⟩
 rw [hw1] at p0 p1 p2 p3 p4 p5 p6 p7 pf pz B0 ⊢
 refine AnyG.startC (by kernel_rfl) ?_
 refine AnyG.enter (fun w' : World => Below w1.heap.size w1 w') (fun i => true) ?_
 have hS : (fun w' : World => Below w1.heap.size w1 w') (World.drew _):=(Below.refl _ _).drew
 refine AnyG.takeC (i:=0) (v:=?_) rfl (by kernel_rfl) (fun _ _ _ h => h) rfl ?_ hS ?_
 rotate_left
 ·(intro w' hSw; (try dsimp only at hSw); have p0:=cellC hSw p0; have p1:=cellC hSw p1; have p2:=cellC hSw p2; have p3:=cellC hSw p3; have p4:=cellC hSw p4; have p5:=cellC hSw p5; have p6:=cellC hSw p6; have p7:=cellC hSw p7; go_simp; try with_reducible rfl)
 try simp only [Act.put,Sp1,Sp2,Sp3,Sp4,Sp5,Sp6]
 refine AnyG.takeC (i:=1) (v:=?_) rfl (by kernel_rfl) (fun _ _ _ h => h) rfl ?_ hS ?_
 rotate_left
 ·(intro w' hSw; (try dsimp only at hSw); have p0:=cellC hSw p0; have p1:=cellC hSw p1; have p2:=cellC hSw p2; have p3:=cellC hSw p3; have p4:=cellC hSw p4; have p5:=cellC hSw p5; have p6:=cellC hSw p6; have p7:=cellC hSw p7; go_simp; try with_reducible rfl)
 try simp only [Act.put,Sp1,Sp2,Sp3,Sp4,Sp5,Sp6]
 refine AnyG.one (i:=2) (by kernel_rfl) rfl rfl ?_
 go_simp
 rw [← xarr_def lo hi]
 refine (least_any lo hi _).mono ?_
 rintro e2 y2 ⟨rfl,hq2⟩
 have hT:=hS.trans (hq2.mono hS.size)
 clear hS
 have hS:=hT
 clear hT
 refine Onward.on hS (fun hS2 => ?_)
 clear hS
 have hS:=hS2
 clear hS2
 try simp only [Act.put,Sp1,Sp2,Sp3,Sp4,Sp5,Sp6]
 refine AnyG.one (i:=3) (by kernel_rfl) rfl rfl ?_
 go_simp
 refine (only_any lo _).mono ?_
 rintro e3 y3 ⟨rfl,hq3⟩
 have hT:=hS.trans (hq3.mono hS.size)
 clear hS
 have hS:=hT
 clear hT
 refine Onward.on hS (fun hS2 => ?_)
 clear hS
 have hS:=hS2
 clear hS2
 try simp only [Act.put,Sp1,Sp2,Sp3,Sp4,Sp5,Sp6]
 refine AnyG.takeC (i:=4) (v:=?_) rfl (by kernel_rfl) (fun _ _ _ h => h) rfl ?_ hS ?_
 rotate_left
 ·(intro w' hSw; (try dsimp only at hSw); have hq:=box_eq lo hi HB.out w'; go_simp; try with_reducible rfl)
 try simp only [Act.put,Sp1,Sp2,Sp3,Sp4,Sp5,Sp6]
 refine AnyG.takeC (i:=5) (v:=?_) rfl (by kernel_rfl) (fun _ _ _ h => h) rfl ?_ hS ?_
 rotate_left
 ·(intro w' hSw; (try dsimp only at hSw); go_simp; try with_reducible rfl)
 try simp only [Act.put,Sp1,Sp2,Sp3,Sp4,Sp5,Sp6]
 refine AnyG.done (by kernel_rfl) ?_ _
 go_simp
 go_wp2_with fail
 go_ret
 exact ⟨rfl,B0.trans (hS.mono B0.size)⟩
end Go.Proofs.Ytmemcopfeabcgaa

/-! Boxes of blends: melt.box.cut, middle, after, blends; wholeBox. -/
namespace Go.Proofs.Ytmemcopfeabcgaa
open Go Go.RowKit
theorem results_two {P : Program} {fn : Func} {p q : Tmp} {ty tz t u : TypeId} {tmps : Array Value} {w : World} {g k : Nat} {cs ds : Array Value} {d f : TypeDesc} (h : fn.results = #[.cell p ty,.cell q tz]) (hp : tmps.getD p undef = .pointer (some ⟨g,0,none⟩)) (hq : tmps.getD q undef = .pointer (some ⟨k,0,none⟩)) (hb : Bx w g t cs) (hk : Bx w k u ds)
  (hu : P.underlying ty = some d) (hd : (match d with | .struct _ | .array _ _ => true | _ => false) = true) (hi : (P.info? ty).map (·.size) = some cs.size) (hv : P.underlying tz = some f) (hf : (match f with | .struct _ | .array _ _ => true | _ => false) = true) (hj : (P.info? tz).map (·.size) = some ds.size) :
  (results fn tmps).run P w = .ok (.tuple #[.agg cs,.agg ds]) w:=by
 have hp' : tmps[p]?.getD undef = .pointer (some ⟨g,0,none⟩):=by simpa using hp
 have hq' : tmps[q]?.getD undef = .pointer (some ⟨k,0,none⟩):=by simpa using hq
 simp only [results,h]
 simp [Sem.run_bind,Result.andThen,hp',hq',asAddr,run_loadVar_row w g t ty cs (0,0) d hb hu hd hi,run_loadVar_row w k u tz ds (0,0) f hk hv hf hj]
set_option maxRecDepth 100000 in
set_option maxHeartbeats 2000000 in
theorem cut_any (lo hi : Nat → Int) (m : Nat) (c : Int) (w : World) (hm : m < 4) (hc : 0 ≤ c ∧ c ≤ 6) :
  Calls Try.prog 91 #[.agg (xarr lo hi),.int .i64 m,.int .i64 c] w fun e w' => e = .returned (.tuple #[.agg (xarr lo (up1 hi m c)),.agg (xarr (up1 lo m (c + 1)) hi)]) ∧ Below w.heap.size w w':=by
 have k1:=((Bx.new w 91 (xarr lo hi)).alloc (.cells (xarr (cutf 0 lo) (cutf 0 lo)) 91)).alloc (.cells (xarr (cutf 0 lo) (cutf 0 lo)) 91)
 have k2:=(Bx.at (w.alloc (.cells (xarr lo hi) 91)) 91 (xarr (cutf 0 lo) (cutf 0 lo)) (n:=w.heap.size + 1) (by simp)).alloc (.cells (xarr (cutf 0 lo) (cutf 0 lo)) 91)
 have k3:=Bx.at ((w.alloc (.cells (xarr lo hi) 91)).alloc (.cells (xarr (cutf 0 lo) (cutf 0 lo)) 91)) 91 (xarr (cutf 0 lo) (cutf 0 lo)) (n:=w.heap.size + 1 + 1) (by simp)
 have B0:=(((Below.refl w.heap.size w).alloc (Nat.le_refl _) (.cells (xarr lo hi) 91)).alloc (by simp) (.cells (xarr (cutf 0 lo) (cutf 0 lo)) 91)).alloc (by simp; omega) (.cells (xarr (cutf 0 lo) (cutf 0 lo)) 91)
 obtain ⟨W1,hW1⟩ : ∃ W1,((w.alloc (.cells (xarr lo hi) 91)).alloc (.cells (xarr (cutf 0 lo) (cutf 0 lo)) 91)).alloc (.cells (xarr (cutf 0 lo) (cutf 0 lo)) 91) = W1:=⟨_,rfl⟩
 rw [hW1] at k1 k2 k3 B0
 rw [xarr_cut0] at hW1
 have HW:=Lib.hid hW1
 clear hW1
 go_enter Try.func91,Try.ntmps91
 go_wp2_with fail
 rw [HW.out]
 refine AnyG.startC (by kernel_rfl) ?_
 refine AnyG.enter (fun w' : World => Bx w' w.heap.size 91 (xarr lo hi)) (fun i => i != 3) ?_
 have hS : (fun w' : World => Bx w' w.heap.size 91 (xarr lo hi)) (World.drew _):=k1.drew
 refine AnyG.takeC (i:=0) (v:=?_) rfl (by kernel_rfl) (fun _ _ _ h => h) rfl ?_ hS ?_
 rotate_left
 ·(intro w' hSw; (try dsimp only at hSw); obtain ⟨p0,p1,p2,p3,p4,p5,p6,p7,pf,pz⟩:=hSw.xarr; go_simp; try with_reducible rfl)
 try simp only [Act.put,Sp1,Sp2,Sp3,Sp4,Sp5,Sp6]
 refine AnyG.takeC (i:=1) (v:=?_) rfl (by kernel_rfl) (fun _ _ _ h => h) rfl ?_ hS ?_
 rotate_left
 ·(intro w' hSw; (try dsimp only at hSw); obtain ⟨p0,p1,p2,p3,p4,p5,p6,p7,pf,pz⟩:=hSw.xarr; go_simp; try with_reducible rfl)
 try simp only [Act.put,Sp1,Sp2,Sp3,Sp4,Sp5,Sp6]
 refine AnyG.one (i:=2) (by kernel_rfl) rfl rfl ?_
 refine wp_store_row 91 (.tmp 6) (.tmp 8) rfl (w.heap.size + 1) (xarr lo hi) rfl (congrArg Value.agg (xarr_def _ _).symm) 91 _ (k2.drew) (by rw [xarr_size]; kernel_rfl) (by simp only [xarr_size]) (xarr_one _ _) ?_
 refine Onward.on (Bx.rowfar hS (by omega)) (fun hS2 => ?_)
 clear hS
 have hS:=hS2
 clear hS2
 try simp only [Act.put,Sp1,Sp2,Sp3,Sp4,Sp5,Sp6]
 refine AnyG.one (i:=3) (by kernel_rfl) rfl rfl ?_
 refine wp_store_row 91 (.tmp 7) (.tmp 9) rfl (w.heap.size + 1 + 1) (xarr lo hi) rfl (congrArg Value.agg (xarr_def _ _).symm) 91 _ ((k3.drew).rowfar (by omega)) (by rw [xarr_size]; kernel_rfl) (by simp only [xarr_size]) (xarr_one _ _) ?_
 refine Onward.last rfl ?_
 try simp only [Act.put,Sp1,Sp2,Sp3,Sp4,Sp5,Sp6]
 refine AnyG.done (by kernel_rfl) ?_ _
 go_simp
 replace B0:=(B0.drew.setRow (g:=w.heap.size + 1) (by omega) (xarr lo hi)).setRow (g:=w.heap.size + 1 + 1) (by omega) (xarr lo hi)
 replace k1:=(k1.drew.rowfar (g':=w.heap.size + 1) (cs':=xarr lo hi) (by omega)).rowfar (g':=w.heap.size + 1 + 1) (cs':=xarr lo hi) (by omega)
 replace k2:=(k2.drew.row (cs':=xarr lo hi)).rowfar (g':=w.heap.size + 1 + 1) (cs':=xarr lo hi) (by omega)
 replace k3:=(k3.drew.rowfar (g':=w.heap.size + 1) (cs':=xarr lo hi) (by omega)).row (cs':=xarr lo hi)
 obtain ⟨W2,hW2⟩ : ∃ W2,(W1.drew.setRow (w.heap.size + 1) (xarr lo hi)).setRow (w.heap.size + 1 + 1) (xarr lo hi) = W2:=⟨_,rfl⟩
 rw [hW2] at B0 k1 k2 k3 ⊢
 clear hW2 hS
 have q2:=(k2.cell (m * 2 + 1)).trans (xarr_hi lo hi hm)
 have q3:=(k3.cell (m * 2)).trans (xarr_lo lo hi hm)
 have f2:=k2.free
 have f3:=k3.free
 have z2:=k2.lt
 have z3:=k3.lt
 have hmi : (m : Int) < 4:=by omega
 have hw1 : IntKind.i64.wrap (c + 1) = c + 1:=IntWalk.i64_in _ (by omega)
 go_wp2_with fail
 clear q2 q3 f2 f3 z2 z3 k1
 replace B0:=(B0.setCell (p:=⟨w.heap.size + 1,m * 2 + 1,none⟩) (by simp) (.int .i64 c)).setCell (p:=⟨w.heap.size + 1 + 1,m * 2,none⟩) (by simp; omega) (.int .i64 (c + 1))
 replace k2:=((xarr_sethi lo hi hm c) ▸ k2.set_ (m * 2 + 1) (.int .i64 c)).far (p:=⟨w.heap.size + 1 + 1,m * 2,none⟩) (by simp) (.int .i64 (c + 1))
 replace k3:=(xarr_setlo lo hi hm (c + 1)) ▸ (k3.far (p:=⟨w.heap.size + 1,m * 2 + 1,none⟩) (by simp) (.int .i64 c)).set_ (m * 2) (.int .i64 (c + 1))
 obtain ⟨W3,hW3⟩ : ∃ W3,(W2.setCell ⟨w.heap.size + 1,m * 2 + 1,none⟩ (.int .i64 c)).setCell ⟨w.heap.size + 1 + 1,m * 2,none⟩ (.int .i64 (c + 1)) = W3:=⟨_,rfl⟩
 rw [hW3] at B0 k2 k3 ⊢
 clear hW3
 refine AnyG.startC (by kernel_rfl) ?_
 refine AnyG.enter (fun w' : World => Bx w' (w.heap.size + 1) 91 (xarr lo (up1 hi m c)) ∧ Bx w' (w.heap.size + 1 + 1) 91 (xarr (up1 lo m (c + 1)) hi)) (fun i => i != 3) ?_
 have hS : (fun w' : World => Bx w' (w.heap.size + 1) 91 (xarr lo (up1 hi m c)) ∧ Bx w' (w.heap.size + 1 + 1) 91 (xarr (up1 lo m (c + 1)) hi)) (World.drew _):=⟨k2.drew,k3.drew⟩
 refine AnyG.takeC (i:=0) (v:=?_) rfl (by kernel_rfl) (fun _ _ _ h => h) rfl ?_ hS ?_
 rotate_left
 ·(intro w' hSw; (try dsimp only at hSw); obtain ⟨p0,p1,p2,p3,p4,p5,p6,p7,pf,pz⟩:=hSw.1.xarr; go_simp; try with_reducible rfl)
 try simp only [Act.put,Sp1,Sp2,Sp3,Sp4,Sp5,Sp6]
 refine AnyG.takeC (i:=1) (v:=?_) rfl (by kernel_rfl) (fun _ _ _ h => h) rfl ?_ hS ?_
 rotate_left
 ·(intro w' hSw; (try dsimp only at hSw); obtain ⟨p0,p1,p2,p3,p4,p5,p6,p7,pf,pz⟩:=hSw.2.xarr; go_simp; try with_reducible rfl)
 try simp only [Act.put,Sp1,Sp2,Sp3,Sp4,Sp5,Sp6]
 refine AnyG.one (i:=2) (by kernel_rfl) rfl rfl ?_
 refine wp_store_row 91 (.tmp 6) (.tmp 19) rfl (w.heap.size + 1) (xarr lo (up1 hi m c)) rfl (congrArg Value.agg (xarr_def _ _).symm) 91 _ (hS.1) (by rw [xarr_size]; kernel_rfl) (by simp only [xarr_size]) (xarr_one _ _) ?_
 refine Onward.on ⟨hS.1.row,hS.2.rowfar (by omega)⟩ (fun hS2 => ?_)
 clear hS
 have hS:=hS2
 clear hS2
 try simp only [Act.put,Sp1,Sp2,Sp3,Sp4,Sp5,Sp6]
 refine AnyG.one (i:=3) (by kernel_rfl) rfl rfl ?_
 refine wp_store_row 91 (.tmp 7) (.tmp 20) rfl (w.heap.size + 1 + 1) (xarr (up1 lo m (c + 1)) hi) rfl (congrArg Value.agg (xarr_def _ _).symm) 91 _ (hS.2) (by rw [xarr_size]; kernel_rfl) (by simp only [xarr_size]) (xarr_one _ _) ?_
 refine Onward.last rfl ?_
 try simp only [Act.put,Sp1,Sp2,Sp3,Sp4,Sp5,Sp6]
 refine AnyG.done (by kernel_rfl) ?_ _
 go_simp
 go_wp2_with fail
 replace B0:=(B0.drew.setRow (g:=w.heap.size + 1) (by omega) (xarr lo (up1 hi m c))).setRow (g:=w.heap.size + 1 + 1) (by omega) (xarr (up1 lo m (c + 1)) hi)
 replace k2:=(k2.drew.row (cs':=xarr lo (up1 hi m c))).rowfar (g':=w.heap.size + 1 + 1) (cs':=xarr (up1 lo m (c + 1)) hi) (by omega)
 replace k3:=(k3.drew.rowfar (g':=w.heap.size + 1) (cs':=xarr lo (up1 hi m c)) (by omega)).row (cs':=xarr (up1 lo m (c + 1)) hi)
 refine bodyPost_ret (v:=.tuple #[.agg (xarr lo (up1 hi m c)),.agg (xarr (up1 lo m (c + 1)) hi)]) (results_two (g:=w.heap.size + 1) (k:=w.heap.size + 1 + 1) (t:=91) (u:=91) rfl rfl rfl k2 k3 Try.underlying91 rfl (by rw [xarr_size]; kernel_rfl) Try.underlying91 rfl (by rw [xarr_size]; kernel_rfl)) rfl ⟨rfl,B0⟩
end Go.Proofs.Ytmemcopfeabcgaa

/-! Ranges over a function whose iterator keeps state of its own in a box: its contract (SeqBx), the law for a loop whose body goes on always (range_bx). -/
namespace Go.Proofs.Ytmemcopfeabcgaa
open Go Go.RowKit
/-- The blocks from lo to b lie as they lay, and none is gone. -/
structure KeepMid (lo b : Nat) (W W' : World) : Prop where
 size : W.heap.size ≤ W'.heap.size
 same : ∀ k,lo ≤ k → k < b → W'.heap[k]? = W.heap[k]?
theorem KeepMid.refl (lo b : Nat) (W : World) : KeepMid lo b W W:=⟨Nat.le_refl _,fun _ _ _ => rfl⟩
theorem KeepMid.trans {lo b : Nat} {A B C : World} (h : KeepMid lo b A B) (k : KeepMid lo b B C) : KeepMid lo b A C :=
 ⟨Nat.le_trans h.size k.size,fun i h1 h2 => (k.same i h1 h2).trans (h.same i h1 h2)⟩
theorem KeepMid.below {lo b : Nat} {A B : World} (h : Below A.heap.size A B) (hb : b ≤ A.heap.size) : KeepMid lo b A B :=
 ⟨h.size,fun i _ i2 => h.block i (by omega)⟩
/-- An invariant that abides the turn of a block from lo to b, and new blocks. -/
def Abide {β : Type} (lo : Nat) (I : Nat → β → World → Prop) : Prop :=
 ∀ b s A B row,I b s A → b ≤ A.heap.size → A.grownBy B row → (∀ r,row = some r → lo ≤ r ∧ r < b) → I b s B
/-- The contract of an iterator that keeps state in boxes of its own, laid before it first yields. -/
def SeqBx {α : Type} (F : Fence) (n : Nat) (P : Program) (gf : Nat) (lb : Array Value) (encs : α → Array Value) (Kp : World → World → Prop) (S : List α → Prop) (N : Nat) (w : World) : Prop :=
 ∀ (l : Nat) (J : Nat → List α → World → Prop) (W : World),Below w.heap.size w W → Abide W.heap.size J →
  (∀ b pre x W1,W.heap.size ≤ b → b ≤ W1.heap.size → J b pre W1 → pre.length < N → YieldAt F (n - 1) P l (encs x) W1 fun e W' => e = .returned (.bool true) ∧ J b (pre ++ [x]) W' ∧ KeepMid W.heap.size b W1 W' ∧ Kp W1 W') →
  (∀ W',Below W.heap.size W W' → J W'.heap.size [] W') →
  CallsIn F n P gf (#[.func (.yield l) #[] #[]] ++ lb) W fun e W' => (∃ v,e = .returned v) ∧ ∃ b xs,S xs ∧ J b xs W' ∧ W.heap.size ≤ b ∧ b ≤ W'.heap.size
section
variable {F : Fence} {n : Nat} {P : Program} {w : World}
theorem range_bx {α : Type} {g : Operand} {ps : Array Tmp} {assign body : Code} {Q : Exit → Act → World → Prop} {a : Act}
  (hro : F.round = none) (h1 : 1 ≤ n) {gf : Nat} {lb : Array Value} (hg : a.eval g = .func (.func gf) #[] lb) (hFg : F.fn gf) (eg : ∀ args w,(callFunc gf args).run P w = .ok (.enter gf args) w)
  {encs : α → Array Value} {Kp : World → World → Prop} {S : List α → Prop} {N : Nat} {w0 : World} (hseq : SeqBx F (n - 1) P gf lb encs Kp S N w0)
  (hKt : ∀ {A B C : World},Kp A B → Kp B C → Kp A C) (hKb : ∀ (W : World) (l : Nat) (o : Obj),w.heap.size ≤ l → Kp W (W.putObj l o)) (hb0 : Below w0.heap.size w0 w) (hps : ∀ x,(encs x).size = ps.size)
  (I : Nat → List α → World → Prop) (hI : Abide w.heap.size I) (h0 : ∀ W,Below w.heap.size w W → I W.heap.size [] W)
  (Ax : Nat → α → Act → World → Prop) (hAx : ∀ b x a' A l o,Ax b x a' A → w.heap.size ≤ l → l < b → Ax b x a' (A.putObj l o))
  (hassign : ∀ (l b : Nat) (pre : List α) (x : α) (W : World) (K : Act → World → Prop),w.heap.size < b → b ≤ W.heap.size → I b pre W →
   (∀ a' W',KeepMid w.heap.size b W W' → Kp W W' → I b pre W' → Ax b x a' W' → K a' W') →
   assign.wpIn (F.inRound l) (n - 1 - 1) P (Exit.then K (fun _ _ _ => False)) { tmps:=(ps.zip (encs x)).foldl (fun t (p,v) => t.setIfInBounds p v) a.tmps,defers:=[] } W)
  (hbody : ∀ (l b : Nat) (pre : List α) (x : α) (a' : Act) (W : World),w.heap.size < b → b ≤ W.heap.size → I b pre W → Ax b x a' W → pre.length < N →
   body.wpIn (F.inRound l) (n - 1 - 1) P (fun e _ W' => e = .normal ∧ KeepMid w.heap.size b W W' ∧ Kp W W' ∧ I b (pre ++ [x]) W') a' W)
  (hdone : ∀ (D b : Nat) (xs : List α) (W : World),w.heap.size ≤ D → w.heap.size < b → b ≤ W.heap.size → S xs → I b xs W → W.heap[D]? = some (.deferred (some [])) → Q .normal { a with defers:={ target:=.collected D,args:=#[] } :: a.defers } W) :
  (Code.rangeFunc g ps assign body).wpIn F n P Q a w:=by
 refine wpIn_rangeFunc ?_
 intro fn hfn
 rw [hro]
 generalize hR : (fun st : LoopState => ({ state:=st,pending:=none,fn,tmps:=a.tmps,params:=ps,assign,body,defers:=w.heap.size } : Loop)) = R
 obtain ⟨l,hl⟩ : ∃ l,w.heap.size + 1 = l:=⟨_,rfl⟩
 obtain ⟨W1,hW1⟩ : ∃ W1,(w.alloc (.deferred (some []))).alloc (.loop (R .ready)) = W1:=⟨_,rfl⟩
 have hL1 : W1.heap[l]? = some (.loop (R .ready)):=by
  have:=World.alloc_heap_new (w.alloc (.deferred (some []))) (.loop (R .ready))
  rw [World.size_alloc,hl,hW1] at this
  exact this
 have hB1 : Below w.heap.size w W1:=by rw [← hW1]; exact ((Below.refl _ w).alloc (Nat.le_refl _) _).alloc (by simp) _
 have hD1 : W1.heap[w.heap.size]? = some (.deferred (some [])):=by
  rw [← hW1]; exact (Below.heap_alloc _ _ _ (by simp)).trans (World.alloc_heap_new w _)
 have hs1 : W1.heap.size = w.heap.size + 2:=by rw [← hW1]; simp
 refine ⟨l,[{ target:=.collected w.heap.size,args:=#[] }],W1,{ target:=.fn (.func gf) lb,args:=#[.func (.yield l) #[] #[]] },W1,gf,#[.func (.yield l) #[] #[]] ++ lb,W1,?_,?_,?_,?_,fun _ => h1,?_⟩
 ·have:=run_enterLoop_outer (P:=P) (w:=w) fn a.tmps ps assign body
  rw [← hW1,← hR,← hl]
  exact this
 ·simp only [resolve,hg]
  simp [go_sem]
 ·intro f' hf'
  simp [Target.leads] at hf'
  subst hf'
  exact hFg
 ·simp [invoke,go_sem,eg]
 ·refine (hseq l (fun b pre W => I b pre W ∧ W.heap[l]? = some (.loop (R .ready)) ∧ W.heap[w.heap.size]? = some (.deferred (some [])) ∧ W1.heap.size ≤ b) W1 (hb0.trans (hB1.mono hb0.size)) ?_ ?_ ?_).mono ?_
  ·rintro b s A B row ⟨i1,i2,i3,i4⟩ hbA hg' hr
   have far : ∀ k o,A.heap[k]? = some o → k < W1.heap.size → B.heap[k]? = some o:=fun k o hk hlt => by
    refine (hg'.block k (Array.getElem?_eq_some_iff.1 hk).1 fun e => ?_).trans hk
    have:=hr k e.symm
    omega
   exact ⟨hI b s A B row i1 hbA hg' fun r e => by have:=hr r e; omega,far l _ i2 (by omega),far _ _ i3 (by omega),i4⟩
  ·rintro b pre x W hWb hbW ⟨i1,i2,i3,i4⟩ hlen
   have hy:=run_yield (P:=P) (args:=encs x) i2 (by rw [← hR]; exact hps x)
   rw [← hR] at hy
   refine ⟨fn,_,assign,body,hy,roundIn_of_wpIn hfn (hassign l b pre x W _ (by omega) hbW i1 ?_)⟩
   intro a' Wa kA kpA iA axA
   have hLa : Wa.heap[l]? = some (.loop (R .ready)):=(kA.same l (by omega) (by omega)).trans i2
   have hDa : Wa.heap[w.heap.size]? = some (.deferred (some [])):=(kA.same _ (by omega) (by omega)).trans i3
   have hlt : l < Wa.heap.size:=(Array.getElem?_eq_some_iff.1 hLa).1
   have hbegin:=run_beginRound (P:=P) hLa (by rw [← hR])
   refine ⟨_,hbegin,?_⟩
   have hLb : (Wa.putObj l (.loop { R .ready with state:=.busy })).heap[l]? = some (.loop { R .ready with state:=.busy }):=World.putObj_heap_same hlt
   have hDb : (Wa.putObj l (.loop { R .ready with state:=.busy })).heap[w.heap.size]? = some (.deferred (some [])):=(World.putObj_heap_other (by omega)).trans hDa
   have hbs : b ≤ (Wa.putObj l (.loop { R .ready with state:=.busy })).heap.size:=by have:=kA.size; simp [World.putObj]; omega
   have iB:=hI b pre Wa _ (some l) iA (by have:=kA.size; omega) (grownBy_putObj' Wa l (.loop { R .ready with state:=.busy })) fun r e => by cases e; omega
   refine wpIn_mono (hbody l b pre x a' _ (by omega) hbs iB (hAx b x a' Wa l _ axA (by omega) (by omega)) hlen) ?_
   rintro e a3 W3 ⟨rfl,k3,kp3,i3'⟩
   have hLc : W3.heap[l]? = some (.loop { R .ready with state:=.busy }):=(k3.same l (by omega) (by omega)).trans hLb
   have hDc : W3.heap[w.heap.size]? = some (.deferred (some [])):=(k3.same _ (by omega) (by omega)).trans hDb
   have hend:=run_endRound (P:=P) none hLc
   have hb3 : b ≤ W3.heap.size:=Nat.le_trans hbs k3.size
   refine ⟨_,_,hend,rfl,⟨hI b _ W3 _ (some l) i3' hb3 (grownBy_putObj' W3 l _) fun r e => by cases e; omega,?_,(World.putObj_heap_other (by omega)).trans hDc,i4⟩,?_,hKt kpA (hKt (hKb Wa l _ (by omega)) (hKt kp3 (hKb W3 l _ (by omega))))⟩
   ·rw [World.putObj_heap_same (Array.getElem?_eq_some_iff.1 hLc).1,← hR]
    rfl
   ·refine ⟨?_,fun k h1 h2 => ?_⟩
    ·have e1:=kA.size
     have e2:=k3.size
     simp [World.putObj] at e2 ⊢
     omega
    ·rw [World.putObj_heap_other (by omega),k3.same k (by omega) h2,World.putObj_heap_other (by omega),kA.same k (by omega) h2]
  ·rintro W' hb'
   have far : ∀ k o,W1.heap[k]? = some o → W'.heap[k]? = some o:=fun k o hk => (hb'.block k (Array.getElem?_eq_some_iff.1 hk).1).trans hk
   exact ⟨h0 W' (hB1.trans (hb'.mono (by omega))),far _ _ hL1,far _ _ hD1,hb'.size⟩
  ·rintro e W2 ⟨⟨v,rfl⟩,b,xs,hS,⟨i1,i2,i3,i4⟩,hb1,hb2⟩
   have hend:=run_endLoop (P:=P) i2 (by rw [← hR]; simp)
   have hpn : (R .ready).pending = none:=by rw [← hR]
   rw [hpn] at hend
   exact ⟨none,_,hend,hdone w.heap.size b xs _ (Nat.le_refl _) (by omega) (by simp [World.putObj]; exact hb2) hS (hI b xs W2 _ (some l) i1 hb2 (grownBy_putObj' W2 l _) fun r e => by cases e; omega) ((World.putObj_heap_other (by omega)).trans i3)⟩
end
end Go.Proofs.Ytmemcopfeabcgaa
