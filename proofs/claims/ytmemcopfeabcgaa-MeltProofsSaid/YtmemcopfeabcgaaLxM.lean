/- Whether a blend keeps its limits, fits, is good: melt.keeps, fits, isGood. -/
import Derived.Test.YtmemcopfeabcgaaWe
import Derived.Laws.CopyRow
set_option linter.unusedSimpArgs false
set_option linter.unusedVariables false
namespace Go.Proofs.Ytmemcopfeabcgaa
open Go Go.RowKit
theorem barr_def (f : Nat → Int) : barr f = #[.int .i64 (f 0),.int .i64 (f 1),.int .i64 (f 2),.int .i64 (f 3)]:=by unfold barr; rfl
theorem Bx.barr {w : World} {g : Nat} {t : TypeId} {f : Nat → Int} (h : Bx w g t (Go.Proofs.Ytmemcopfeabcgaa.barr f)) : w.cell? ⟨g,0,none⟩ = some (.int .i64 (f 0)) ∧ w.cell? ⟨g,1,none⟩ = some (.int .i64 (f 1)) ∧ w.cell? ⟨g,2,none⟩ = some (.int .i64 (f 2)) ∧ w.cell? ⟨g,3,none⟩ = some (.int .i64 (f 3)) ∧ (∀ o,w.frozen? ⟨g,o,none⟩ = false) ∧ g < w.heap.size:=by
 rw [barr_def] at h
 exact h.four
theorem kv_nk {o : Od} {f : Nat → Int} {k : Nat} (hk : k < o.lm.length) (h : 0 < exN o f k o.bs.length) : kv o f = 2:=by
 unfold kv
 rw [if_pos (nk_mono (k:=k + 1) (by omega) (by rw [nk_succ]; simp [h]))]
set_option maxRecDepth 100000 in
set_option maxHeartbeats 1000000 in
theorem keeps_any (LA : Option Addr) (ln lc : Nat) (BA : Option Addr) (bn bc : Nat) (o : Od) (f : Nat → Int) (w : World) (hl : o.lm.length = ln) (hb' : o.bs.length = bn) (hA : OrdAt w w.heap.size LA BA o) (ho : o.Ok) (hf : Six f) :
  Calls Try.prog 49 #[.agg #[.slice LA ln lc,.int .i64 o.le,.int .i64 o.mo,.slice BA bn bc],.agg (barr f)] w fun e w' => e = .returned (.int .i64 (kv o f)) ∧ Below w.heap.size w w':=by
 have K1:=(Bx.new w 27 #[.slice LA ln lc,.int .i64 o.le,.int .i64 o.mo,.slice BA bn bc]).alloc (.cells (barr f) 81)
 have K2:=Bx.at (w.alloc (.cells #[.slice LA ln lc,.int .i64 o.le,.int .i64 o.mo,.slice BA bn bc] 27)) 81 (barr f) (n:=w.heap.size + 1) (by simp)
 have B0:=((Below.refl w.heap.size w).alloc (Nat.le_refl _) (.cells #[.slice LA ln lc,.int .i64 o.le,.int .i64 o.mo,.slice BA bn bc] 27)).alloc (by simp) (.cells (barr f) 81)
 have HB:=Lib.hid hb'
 have HL:=Lib.hid hl
 have HO:=Lib.hid ho
 have HF:=Lib.hid hf
 have hln3 : ln ≤ 3:=by rw [← hl]; exact ho.lm
 clear hb' hl ho hf
 go_enter Try.func49,Try.ntmps49
 go_wp2_with fail
 go_loopw [11,5] (fun i v wr => ∃ (k : Nat) (x : Int),k ≤ ln ∧ i = .int .i64 k ∧ v = .int .i64 x ∧ Hid (nk o f k = false ∧ x = if xk o f k = true then 3 else 1) ∧ Bx wr w.heap.size 27 #[.slice LA ln lc,.int .i64 o.le,.int .i64 o.mo,.slice BA bn bc] ∧ Bx wr (w.heap.size + 1) 81 (barr f) ∧ Below w.heap.size w wr) (fun i _ _ => ln - (intOf i).toNat)
 case atStart => exact ⟨0,1,by omega,rfl,rfl,Lib.hid ⟨rfl,rfl⟩,K1,K2,B0⟩
 case round =>
  clear K1 K2 B0
  obtain ⟨k,x,hk,rfl,rfl,hx,k1,k2,hB⟩:=hrel
  obtain ⟨o0,o1,o2,o3,of,oz⟩:=k1.four
  obtain ⟨f0,f1,f2,f3,ff,fz⟩:=k2.barr
  by_cases hkn : k < ln
  ·obtain ⟨y,hy⟩ : ∃ y,exN o f k bn = y:=⟨_,rfl⟩
   obtain ⟨z,hz⟩ : ∃ z,exX o f k bn = z:=⟨_,rfl⟩
   have HY:=Lib.hid hy
   have HZ:=Lib.hid hz
   clear hy hz
   by_cases h1 : 0 < y
   ·have H2 : Hid (kv o f = 2):=Lib.hid (kv_nk (by rw [HL.out]; exact hkn) (by rw [HB.out,HY.out]; exact h1))
    clear hx
    go_wp2_with (first | (go_at_call 82; rw [← barr_def f]; refine (excess_any LA ln lc BA bn bc o f k _ HL.out HB.out ((hA.below hB).more hB.size) HO.out HF.out hkn).mono ?_; rintro e w1 ⟨rfl,hb⟩; rw [HY.out,HZ.out]))
    go_ret
    exact ⟨ret_int H2.out.symm,(hB.trans (hb.mono hB.size)).alloc (hB.trans (hb.mono hB.size)).size _⟩
   ·have hn1 : Hid (nk o f (k + 1) = false):=by unfold Hid; rw [nk_succ,hx.out.1,HB.out,HY.out]; simp; omega
    by_cases h2 : 0 < z
    ·have hx1 : Hid ((3 : Int) = if xk o f (k + 1) = true then 3 else 1):=by unfold Hid; rw [xk_succ,HB.out,HZ.out,decide_eq_true h2]; simp
     clear hx
     go_wp2_with (first | (go_at_call 82; rw [← barr_def f]; refine (excess_any LA ln lc BA bn bc o f k _ HL.out HB.out ((hA.below hB).more hB.size) HO.out HF.out hkn).mono ?_; rintro e w1 ⟨rfl,hb⟩; rw [HY.out,HZ.out]))
     go_roundw
     case rel => exact ⟨k + 1,3,by omega,by go_num,rfl,Lib.hid ⟨hn1.out,hx1.out⟩,(k1.call hb).alloc _,(k2.call hb).alloc _,(hB.trans (hb.mono hB.size)).alloc (hB.trans (hb.mono hB.size)).size _⟩
     case measure => simp [intOf]; omega
    ·have hx1 : Hid (x = if xk o f (k + 1) = true then 3 else 1):=by unfold Hid; rw [xk_succ,HB.out,HZ.out,decide_eq_false h2,Bool.or_false]; exact hx.out.2
     clear hx
     go_wp2_with (first | (go_at_call 82; rw [← barr_def f]; refine (excess_any LA ln lc BA bn bc o f k _ HL.out HB.out ((hA.below hB).more hB.size) HO.out HF.out hkn).mono ?_; rintro e w1 ⟨rfl,hb⟩; rw [HY.out,HZ.out]))
     go_roundw
     case rel => exact ⟨k + 1,x,by omega,by go_num,rfl,Lib.hid ⟨hn1.out,hx1.out⟩,(k1.call hb).alloc _,(k2.call hb).alloc _,(hB.trans (hb.mono hB.size)).alloc (hB.trans (hb.mono hB.size)).size _⟩
     case measure => simp [intOf]; omega
  ·obtain rfl : k = ln:=by omega
   have H2 : Hid (kv o f = x):=by unfold Hid kv; rw [HL.out,hx.out.1,hx.out.2]; simp
   go_wp2_with fail
   go_ret
   exact ⟨ret_int H2.out.symm,hB⟩
set_option maxHeartbeats 1000000 in
theorem fits_any (LA : Option Addr) (ln lc : Nat) (BA : Option Addr) (bn bc : Nat) (o : Od) (f : Nat → Int) (w : World) (hl : o.lm.length = ln) (hb' : o.bs.length = bn) (hA : OrdAt w w.heap.size LA BA o) (ho : o.Ok) (hf : Six f) :
  Calls Try.prog 87 #[.agg #[.slice LA ln lc,.int .i64 o.le,.int .i64 o.mo,.slice BA bn bc],.agg (barr f)] w fun e w' => e = .returned (.bool (decide (o.le ≤ kil o f bn ∧ kil o f bn ≤ o.mo))) ∧ Below w.heap.size w w':=by
 have K1:=(Bx.new w 27 #[.slice LA ln lc,.int .i64 o.le,.int .i64 o.mo,.slice BA bn bc]).alloc (.cells (barr f) 81)
 have K2:=Bx.at (w.alloc (.cells #[.slice LA ln lc,.int .i64 o.le,.int .i64 o.mo,.slice BA bn bc] 27)) 81 (barr f) (n:=w.heap.size + 1) (by simp)
 have B0:=((Below.refl w.heap.size w).alloc (Nat.le_refl _) (.cells #[.slice LA ln lc,.int .i64 o.le,.int .i64 o.mo,.slice BA bn bc] 27)).alloc (by simp) (.cells (barr f) 81)
 have HC : Calls Try.prog 59 #[.agg #[.slice LA ln lc,.int .i64 o.le,.int .i64 o.mo,.slice BA bn bc],.agg (barr f)] ((w.alloc (.cells #[.slice LA ln lc,.int .i64 o.le,.int .i64 o.mo,.slice BA bn bc] 27)).alloc (.cells (barr f) 81)) fun e w' => e = .returned (.tuple #[.int .i64 (kil o f bn),.int .i64 (cst o f bn)]) ∧ Below ((w.alloc (.cells #[.slice LA ln lc,.int .i64 o.le,.int .i64 o.mo,.slice BA bn bc] 27)).alloc (.cells (barr f) 81)).heap.size ((w.alloc (.cells #[.slice LA ln lc,.int .i64 o.le,.int .i64 o.mo,.slice BA bn bc] 27)).alloc (.cells (barr f) 81)) w':=weigh_any LA ln lc BA bn bc o f _ hl hb' ((hA.below B0).more B0.size) ho hf
 obtain ⟨o0,o1,o2,o3,of,oz⟩:=K1.four
 obtain ⟨f0,f1,f2,f3,ff,fz⟩:=K2.barr
 generalize kil o f bn = x at *
 generalize cst o f bn = y at *
 by_cases h1 : o.le ≤ x
 ·go_enter Try.func87,Try.ntmps87
  go_wp2_with (first | (go_at_call 59; rw [← barr_def f]; refine HC.mono ?_; rintro e w1 ⟨rfl,hb⟩; have k1:=K1.call hb; have B1:=B0.trans (hb.mono B0.size); clear o0 o1 o2 o3 of oz; obtain ⟨o0,o1,o2,o3,of,oz⟩:=k1.four))
  all_goals
   go_ret
   exact ⟨ret_bool (by first | (simp [h1]; done) | (simp; omega) | (simp [h1]; omega)),B1⟩
 ·go_enter Try.func87,Try.ntmps87
  go_wp2_with (first | (go_at_call 59; rw [← barr_def f]; refine HC.mono ?_; rintro e w1 ⟨rfl,hb⟩; have k1:=K1.call hb; have B1:=B0.trans (hb.mono B0.size); clear o0 o1 o2 o3 of oz; obtain ⟨o0,o1,o2,o3,of,oz⟩:=k1.four))
  all_goals
   go_ret
   exact ⟨ret_bool (by first | (simp [h1]; done) | (simp; omega) | (simp [h1]; omega)),B1⟩
set_option maxHeartbeats 1000000 in
theorem isGood_any (LA : Option Addr) (ln lc : Nat) (BA : Option Addr) (bn bc : Nat) (o : Od) (f : Nat → Int) (w : World) (hl : o.lm.length = ln) (hb' : o.bs.length = bn) (hA : OrdAt w w.heap.size LA BA o) (ho : o.Ok) (hf : Six f) :
  Calls Try.prog 60 #[.agg #[.slice LA ln lc,.int .i64 o.le,.int .i64 o.mo,.slice BA bn bc],.agg (barr f)] w fun e w' => e = .returned (.bool (decide (Good o f))) ∧ Below w.heap.size w w':=by
 have K1:=(Bx.new w 27 #[.slice LA ln lc,.int .i64 o.le,.int .i64 o.mo,.slice BA bn bc]).alloc (.cells (barr f) 81)
 have K2:=Bx.at (w.alloc (.cells #[.slice LA ln lc,.int .i64 o.le,.int .i64 o.mo,.slice BA bn bc] 27)) 81 (barr f) (n:=w.heap.size + 1) (by simp)
 have B0:=((Below.refl w.heap.size w).alloc (Nat.le_refl _) (.cells #[.slice LA ln lc,.int .i64 o.le,.int .i64 o.mo,.slice BA bn bc] 27)).alloc (by simp) (.cells (barr f) 81)
 have HC:=fits_any LA ln lc BA bn bc o f ((w.alloc (.cells #[.slice LA ln lc,.int .i64 o.le,.int .i64 o.mo,.slice BA bn bc] 27)).alloc (.cells (barr f) 81)) hl hb' ((hA.below B0).more B0.size) ho hf
 obtain ⟨o0,o1,o2,o3,of,oz⟩:=K1.four
 obtain ⟨f0,f1,f2,f3,ff,fz⟩:=K2.barr
 have HQ : ∀ w',Below w.heap.size w w' → Calls Try.prog 49 #[.agg #[.slice LA ln lc,.int .i64 o.le,.int .i64 o.mo,.slice BA bn bc],.agg (barr f)] w' fun e w'' => e = .returned (.int .i64 (kv o f)) ∧ Below w'.heap.size w' w'':=fun w' hb => keeps_any LA ln lc BA bn bc o f w' hl hb' ((hA.below hb).more hb.size) ho hf
 have HG : Hid (Good o f ↔ (o.le ≤ kil o f bn ∧ kil o f bn ≤ o.mo) ∧ kv o f = 1):=by unfold Hid Good; rw [hb',and_assoc]
 generalize kil o f bn = x at *
 generalize kv o f = v at *
 by_cases h1 : o.le ≤ x ∧ x ≤ o.mo
 ·rw [decide_eq_true h1] at HC
  by_cases hv : v = 1
  ·subst hv
   have HD : Hid (decide (Good o f) = true):=Lib.hid (decide_eq_true (HG.out.2 ⟨h1,rfl⟩))
   go_enter Try.func60,Try.ntmps60
   go_wp2_with (first | (go_at_call 87; rw [← barr_def f]; refine HC.mono ?_; rintro e w1 ⟨rfl,hb⟩; have k1:=K1.call hb; have k2:=K2.call hb; have B1:=B0.trans (hb.mono B0.size); clear o0 o1 o2 o3 of oz f0 f1 f2 f3 ff fz; obtain ⟨o0,o1,o2,o3,of,oz⟩:=k1.four; obtain ⟨f0,f1,f2,f3,ff,fz⟩:=k2.barr) | (go_at_call 49; rw [← barr_def f]; refine (HQ _ B1).mono ?_; rintro e w2 ⟨rfl,hb2⟩))
   go_ret
   exact ⟨ret_bool HD.out.symm,B1.trans (hb2.mono B1.size)⟩
  ·have hv' : (v == 1) = false:=by simpa using hv
   have HD : Hid (decide (Good o f) = false):=Lib.hid (decide_eq_false fun h => hv (HG.out.1 h).2)
   go_enter Try.func60,Try.ntmps60
   go_wp2_with (first | (go_at_call 87; rw [← barr_def f]; refine HC.mono ?_; rintro e w1 ⟨rfl,hb⟩; have k1:=K1.call hb; have k2:=K2.call hb; have B1:=B0.trans (hb.mono B0.size); clear o0 o1 o2 o3 of oz f0 f1 f2 f3 ff fz; obtain ⟨o0,o1,o2,o3,of,oz⟩:=k1.four; obtain ⟨f0,f1,f2,f3,ff,fz⟩:=k2.barr) | (go_at_call 49; rw [← barr_def f]; refine (HQ _ B1).mono ?_; rintro e w2 ⟨rfl,hb2⟩))
   go_ret
   exact ⟨ret_bool HD.out.symm,B1.trans (hb2.mono B1.size)⟩
 ·rw [decide_eq_false h1] at HC
  have HD : Hid (decide (Good o f) = false):=Lib.hid (decide_eq_false fun h => h1 (HG.out.1 h).1)
  go_enter Try.func60,Try.ntmps60
  go_wp2_with (first | (go_at_call 87; rw [← barr_def f]; refine HC.mono ?_; rintro e w1 ⟨rfl,hb⟩; have B1:=B0.trans (hb.mono B0.size)))
  go_ret
  exact ⟨ret_bool HD.out.symm,B1⟩
end Go.Proofs.Ytmemcopfeabcgaa

/-! copy into an array; melt.blendOf, Keeps, Weigh. -/
namespace Go.Proofs.Ytmemcopfeabcgaa
open Go Go.RowKit
section
variable {P : Program}
theorem wpList_copy_row {w : World} {ops : Array Oper} {rest : List Oper} {o : Oper} {a : Act} {Q : Exit → Act → World → Prop} (hgd : o.guard = none) (d x : Operand) (dT sT : TypeId)
  (ho : o.op = .call { callee:=.builtin .copy,args:=#[d,x],argTypes:=#[dT,sT] }) (elem : TypeId) (g dLen dCap : Nat) (ad : Addr) (sLen sCap : Nat) (cur : Array Value) (t : TypeId) (cs : List Value)
  (hd : a.eval d = .slice (some ⟨g,0,none⟩) dLen dCap) (hx : a.eval x = .slice (some ad) sLen sCap)
  (hu : P.underlying dT = some (.slice elem)) (hsz : (P.info? elem).map (·.size) = some 1) (hg : Bx w g t cur) (hcs : cs.length = Nat.min sLen dLen) (hfit : cs.length ≤ cur.size)
  (hsrc : ∀ j v,cs[j]? = some v → w.cell? (ad.add j) = some v) (h1 : ∀ v ∈ cs,v.oneCell' = true)
  (h : wpList P ops Q rest (a.put o.dst (goInt cs.length)) (w.setRow g (cs ++ cur.toList.drop cs.length).toArray)) : wpList P ops Q (o :: rest) a w:=by
 refine wpList_plain hgd fun K hK => ?_
 have hrun:=run_copy_row P w dT sT o.type elem g 0 dLen dCap ad sLen sCap cur t cs hu hsz hg hcs hsrc (by omega) h1
 simp only [List.take_zero,List.nil_append,Nat.zero_add] at hrun
 unfold Oper.wp
 simp [execOp,ho,resolve,invoke,builtin,hd,hx,hrun,Result.andThen]
 exact hK _ _ h
end
/-- A list as a function. -/
def lf (L : List Int) : Nat → Int:=fun i => L.getD i 0
theorem lf_bl (L : List Int) (hL : L.length ≤ 4) : (L.map (fun x => Value.int .i64 x) ++ (barr fun _ => 0).toList.drop L.length).toArray = barr (lf L):=by
 rw [barr_def,barr_def]
 match L,hL with
 | [],_ => rfl
 | [a],_ => rfl
 | [a,b],_ => rfl
 | [a,b,c],_ => rfl
 | [a,b,c,d],_ => rfl
theorem inr_cells {w : World} {B : Nat} {ad : Addr} {L : List Int} (h : Sl w B 1 (some ad) (inr L)) : ∀ j v,(L.map (fun x => Value.int .i64 x))[j]? = some v → w.cell? (ad.add j) = some v:=by
 intro j v hv
 have hj : j < L.length:=by simpa using (List.getElem?_eq_some_iff.1 hv).1
 obtain ⟨ad',e,_,h1⟩:=inr_at h hj
 simp only [Option.some.injEq] at e
 subst e
 rw [h1]
 simpa [hj] using hv
set_option maxRecDepth 100000 in
set_option maxHeartbeats 1000000 in
theorem blendOf_any (A : Option Addr) (n c : Nat) (L : List Int) (w : World) (hl : L.length = n) (h1 : 1 ≤ n) (h4 : n ≤ 4) (hA : Sl w w.heap.size 1 A (inr L)) :
  Calls Try.prog 50 #[.slice A n c] w fun e w' => e = .returned (.agg (barr (lf L))) ∧ Below w.heap.size w w':=by
 have K1:=(Bx.new w 81 (barr fun _ => 0)).alloc (.cells (barr fun _ => 0) 81)
 have K2:=Bx.at (w.alloc (.cells (barr fun _ => 0) 81)) 81 (barr fun _ => 0) (n:=w.heap.size + 1) (by simp)
 have B0:=((Below.refl w.heap.size w).alloc (Nat.le_refl _) (.cells (barr fun _ => 0) 81)).alloc (by simp) (.cells (barr fun _ => 0) 81)
 obtain ⟨ad,rfl⟩ : ∃ ad,A = some ad:=by
  obtain ⟨ad,e,_⟩:=inr_at hA (k:=0) (by omega)
  exact ⟨ad,e⟩
 have hcs:=inr_cells ((hA.below B0).more B0.size)
 have hf:=lf_bl L (by omega)
 have e0:=barr_def (fun _ => 0)
 obtain ⟨W1,hW1⟩ : ∃ W1,(w.alloc (.cells (barr fun _ => 0) 81)).alloc (.cells (barr fun _ => 0) 81) = W1:=⟨_,rfl⟩
 rw [hW1] at K1 K2 B0 hcs
 rw [e0] at hW1
 have HW:=Lib.hid hW1
 have HFF:=Lib.hid hf
 clear hW1 e0 hf
 have HL:=Lib.hid hl
 clear hl
 have h1c : ∀ v ∈ L.map (fun x => Value.int .i64 x),v.oneCell' = true:=by
  intro v hv
  obtain ⟨x,_,rfl⟩:=List.mem_map.1 hv
  rfl
 have hcl : (L.map (fun x => Value.int .i64 x)).length = n:=by rw [List.length_map]; exact HL.out
 have hff : Hid ((L.map (fun x => Value.int .i64 x) ++ (barr fun _ => 0).toList.drop n).toArray = barr (lf L)):=by unfold Hid; rw [← HFF.out,HL.out]
 generalize L.map (fun x => Value.int .i64 x) = cs at *
 have HCL:=Lib.hid hcl
 clear hcl HFF
 have HR : Below w.heap.size w (W1.setRow (w.heap.size + 1) (barr (lf L))):=B0.setRow (by omega) _
 have M1:=K1.rowfar (g':=w.heap.size + 1) (cs':=barr (lf L)) (by omega)
 have M2:=K2.row (cs':=barr (lf L))
 obtain ⟨W2,hW2⟩ : ∃ W2,W1.setRow (w.heap.size + 1) (barr (lf L)) = W2:=⟨_,rfl⟩
 rw [hW2] at HR M1 M2
 have HW2:=Lib.hid hW2
 clear hW2
 obtain ⟨p0,p1,p2,p3,pf,pz⟩:=M1.barr
 obtain ⟨q0,q1,q2,q3,qf,qz⟩:=M2.barr
 go_enter Try.func50,Try.ntmps50
 go_wp2_with ((with_reducible (show wpList _ _ _ (⟨some 6,_,_,_,_,_⟩ :: _) _ _)); rw [HW.out]; refine wpList_copy_row rfl (.tmp 4) (.tmp 5) _ 22 rfl 3 (w.heap.size + 1) 4 4 ad n c (barr fun _ => 0) 81 cs rfl rfl Try.underlying22 (by kernel_rfl) K2 (by rw [HCL.out]; exact (Nat.min_eq_left h4).symm) (by rw [HCL.out,barr_size]; exact h4) hcs h1c ?_; rw [HCL.out,hff.out,HW2.out])
 rw [barr_def]
 refine bodyPost_ret (v:=.agg #[.int .i64 (lf L 0),.int .i64 (lf L 1),.int .i64 (lf L 2),.int .i64 (lf L 3)]) (by simp [results,Try.results50,go_sem,p0,p1,p2,p3,pf]) rfl ⟨rfl,?_⟩
 exact (((HR.setCell (by simp) _).setCell (by simp) _).setCell (by simp) _).setCell (by simp) _
theorem ckV_ok : ∀ {bs : List Bn} {L : List Int},L.length = bs.length → ckV (bs.zip L) = 0 → ∀ (i : Nat) (x : Int),L[i]? = some x → ∃ b : Bn,bs[i]? = some b ∧ 0 ≤ x ∧ x ≤ b.g
 | [],[],_,_,i,x,h => by simp at h
 | b :: bs,y :: L,hl,h,i,x,hx => by
  simp only [List.zip_cons_cons,ckV] at h
  split at h
  ·cases h
  ·cases i with
   | zero =>
    simp only [List.getElem?_cons_zero,Option.some.injEq] at hx
    subst hx
    exact ⟨b,rfl,by omega,by omega⟩
   | succ i => exact ckV_ok (by simpa using hl) h i x (by simpa using hx)
/-- A good list of numbers is a blend. -/
structure BlOk (o : Od) (L : List Int) : Prop where
 ok : o.Ok
 len : L.length = o.bs.length
 in_ : ∀ i,lf L i = 0 ∨ (i < o.bs.length ∧ 0 ≤ lf L i ∧ lf L i ≤ (o.bn i).g)
theorem ckBl_zero {o : Od} {L : List Int} (h : ckBl o L = 0) : BlOk o L:=by
 unfold ckBl at h
 split at h
 ·rename_i h1; exact absurd h h1
 ·rename_i h1
  split at h
  ·cases h
  ·rename_i h2
   have h2 : L.length = o.bs.length:=Decidable.not_not.1 h2
   refine ⟨ckO_zero.1 (Decidable.not_not.1 h1),h2,fun i => ?_⟩
   unfold lf
   rw [List.getD_eq_getElem?_getD]
   cases e : L[i]? with
   | none => exact .inl rfl
   | some x =>
    obtain ⟨b,hb,h3,h4⟩:=ckV_ok h2 h i x e
    refine .inr ⟨by have:=(List.getElem?_eq_some_iff.1 e).1; omega,h3,?_⟩
    unfold Od.bn
    rw [List.getD_eq_getElem?_getD,hb]
    exact h4
theorem BlOk.six {o : Od} {L : List Int} (h : BlOk o L) : Six (lf L):=fun i => by
 rcases h.in_ i with h1 | ⟨h1,h2,h3⟩
 ·rw [h1]; omega
 ·have:=(h.ok.bn h1).g2; omega
theorem BlOk.inb {o : Od} {L : List Int} (h : BlOk o L) : InB zer o.mx (lf L):=fun i hi => by
 rcases h.in_ i with h1 | ⟨h1,h2,h3⟩
 ·rw [h1]; have:=h.ok.mx.six2 i; simp only [zer]; omega
 ·exact ⟨by simp only [zer]; exact h2,h3⟩
end Go.Proofs.Ytmemcopfeabcgaa

/-! Boxes of blends: melt.box.least, greatest, only, isOne, cut, middle, after; wholeBox. -/
namespace Go.Proofs.Ytmemcopfeabcgaa
open Go Go.RowKit
theorem xarr_def (lo hi : Nat → Int) : xarr lo hi = #[.int .i64 (lo 0),.int .i64 (hi 0),.int .i64 (lo 1),.int .i64 (hi 1),.int .i64 (lo 2),.int .i64 (hi 2),.int .i64 (lo 3),.int .i64 (hi 3)]:=by unfold xarr; rfl
theorem Bx.xarr {w : World} {g : Nat} {t : TypeId} {lo hi : Nat → Int} (h : Bx w g t (Go.Proofs.Ytmemcopfeabcgaa.xarr lo hi)) : w.cell? ⟨g,0,none⟩ = some (.int .i64 (lo 0)) ∧ w.cell? ⟨g,1,none⟩ = some (.int .i64 (hi 0)) ∧ w.cell? ⟨g,2,none⟩ = some (.int .i64 (lo 1)) ∧ w.cell? ⟨g,3,none⟩ = some (.int .i64 (hi 1)) ∧ w.cell? ⟨g,4,none⟩ = some (.int .i64 (lo 2)) ∧ w.cell? ⟨g,5,none⟩ = some (.int .i64 (hi 2)) ∧ w.cell? ⟨g,6,none⟩ = some (.int .i64 (lo 3)) ∧ w.cell? ⟨g,7,none⟩ = some (.int .i64 (hi 3)) ∧ (∀ o,w.frozen? ⟨g,o,none⟩ = false) ∧ g < w.heap.size:=by
 rw [xarr_def] at h
 exact ⟨h.cell 0,h.cell 1,h.cell 2,h.cell 3,h.cell 4,h.cell 5,h.cell 6,h.cell 7,h.free,h.lt⟩
/-- The first k numbers. -/
def cutf (k : Nat) (f : Nat → Int) : Nat → Int:=fun i => if i < k then f i else 0
theorem barr_put (f : Nat → Int) {k : Nat} (hk : k < 4) : (barr (cutf k f)).setIfInBounds k (.int .i64 (f k)) = barr (cutf (k + 1) f):=by
 rw [barr_set _ hk]
 refine barr_congr fun i _ => ?_
 unfold up1 cutf
 by_cases h : i = k
 ·subst h; simp
 ·rw [if_neg h]
  by_cases h2 : i < k
  ·rw [if_pos h2,if_pos (by omega)]
  ·rw [if_neg h2,if_neg (by omega)]
theorem xarr_put (f g : Nat → Int) {k : Nat} (hk : k < 4) : ((xarr (cutf k f) (cutf k g)).setIfInBounds (k * 2) (.int .i64 (f k))).setIfInBounds (k * 2 + 1) (.int .i64 (g k)) = xarr (cutf (k + 1) f) (cutf (k + 1) g):=by
 rw [xarr_setlo _ _ hk,xarr_sethi _ _ hk]
 refine xarr_congr (fun i _ => ?_) (fun i _ => ?_) <;>
 ·unfold up1 cutf
  by_cases h : i = k
  ·subst h; simp
  ·rw [if_neg h]
   by_cases h2 : i < k
   ·rw [if_pos h2,if_pos (by omega)]
   ·rw [if_neg h2,if_neg (by omega)]
theorem barr_cut0 (f : Nat → Int) : barr (cutf 0 f) = #[.int .i64 0,.int .i64 0,.int .i64 0,.int .i64 0]:=by rw [barr_def]; rfl
theorem barr_cut4 (f : Nat → Int) : barr (cutf 4 f) = barr f:=barr_congr fun i hi => by simp [cutf,hi]
theorem xarr_cut0 (f g : Nat → Int) : xarr (cutf 0 f) (cutf 0 g) = #[.int .i64 0,.int .i64 0,.int .i64 0,.int .i64 0,.int .i64 0,.int .i64 0,.int .i64 0,.int .i64 0]:=by rw [xarr_def]; rfl
theorem xarr_cut4 (f g : Nat → Int) : xarr (cutf 4 f) (cutf 4 g) = xarr f g:=xarr_congr (fun i hi => by simp [cutf,hi]) (fun i hi => by simp [cutf,hi])
set_option maxRecDepth 100000 in
set_option maxHeartbeats 2000000 in
theorem least_any (lo hi : Nat → Int) (w : World) :
  Calls Try.prog 85 #[.agg (xarr lo hi)] w fun e w' => e = .returned (.agg (barr lo)) ∧ Below w.heap.size w w':=by
 have K1:=((Bx.new w 91 (xarr lo hi)).alloc (.cells (barr (cutf 0 lo)) 81)).alloc (.cells (barr (cutf 0 lo)) 81)
 have K2:=(Bx.at (w.alloc (.cells (xarr lo hi) 91)) 81 (barr (cutf 0 lo)) (n:=w.heap.size + 1) (by simp)).alloc (.cells (barr (cutf 0 lo)) 81)
 have K3:=Bx.at ((w.alloc (.cells (xarr lo hi) 91)).alloc (.cells (barr (cutf 0 lo)) 81)) 81 (barr (cutf 0 lo)) (n:=w.heap.size + 1 + 1) (by simp)
 have B0:=(((Below.refl w.heap.size w).alloc (Nat.le_refl _) (.cells (xarr lo hi) 91)).alloc (by simp) (.cells (barr (cutf 0 lo)) 81)).alloc (by simp; omega) (.cells (barr (cutf 0 lo)) 81)
 obtain ⟨W1,hW1⟩ : ∃ W1,((w.alloc (.cells (xarr lo hi) 91)).alloc (.cells (barr (cutf 0 lo)) 81)).alloc (.cells (barr (cutf 0 lo)) 81) = W1:=⟨_,rfl⟩
 rw [hW1] at K1 K2 K3 B0
 rw [barr_cut0] at hW1
 have HW:=Lib.hid hW1
 clear hW1
 obtain ⟨p0,p1,p2,p3,p4,p5,p6,p7,pf,pz⟩:=K1.xarr
 go_enter Try.func85,Try.ntmps85
 go_wp2_with ((with_reducible (show wpList _ _ _ (⟨some 6,_,_,_,_,_⟩ :: _) _ _)); rw [HW.out])
 clear p0 p1 p2 p3 p4 p5 p6 p7 pf pz HW
 go_loopw [7] (fun i wr => ∃ (k : Nat) (z : Int),k ≤ 4 ∧ z = k ∧ i = .int .i64 z ∧ Bx wr (w.heap.size + 1) 81 (barr (cutf 0 lo)) ∧ Bx wr (w.heap.size + 1 + 1) 81 (barr (cutf k lo)) ∧ Below w.heap.size w wr) (fun i _ => 4 - (intOf i).toNat)
 case atStart => exact ⟨0,0,by omega,rfl,rfl,K2,K3,B0⟩
 case round =>
  clear K1 K2 K3 B0
  obtain ⟨k,z,hk,hz,rfl,k2,k3,hB⟩:=hrel
  have hs3:=k3.lt
  rcases (show k = 0 ∨ k = 1 ∨ k = 2 ∨ k = 3 ∨ k = 4 by omega) with rfl | rfl | rfl | rfl | rfl
  ·obtain rfl : z = 0:=hz
   have hx : ∀ w,(Instr.index 91 (.agg #[.int .i64 (lo 0),.int .i64 (hi 0),.int .i64 (lo 1),.int .i64 (hi 1),.int .i64 (lo 2),.int .i64 (hi 2),.int .i64 (lo 3),.int .i64 (hi 3)]) (.int .i64 0)).run Try.prog w = .ok (.agg #[.int .i64 (lo 0),.int .i64 (hi 0)]) w:=fun _ => by kernel_rfl
   obtain ⟨b0,b1,b2,b3,bf,bz⟩:=k3.barr
   go_wp2_with fail
   go_roundw
   case rel => exact ⟨1,1,by omega,rfl,rfl,(k2.far (p:=⟨w.heap.size + 1 + 1,0,none⟩) (by simp) _).alloc _,(by have h:=k3.set_ 0 (.int .i64 (lo 0)); rw [barr_put _ (by decide)] at h; exact h.alloc _),(hB.setCell (by simp; omega) _).alloc (hB.setCell (by simp; omega) _).size _⟩
   case measure => simp [intOf]
  ·obtain rfl : z = 1:=hz
   have hx : ∀ w,(Instr.index 91 (.agg #[.int .i64 (lo 0),.int .i64 (hi 0),.int .i64 (lo 1),.int .i64 (hi 1),.int .i64 (lo 2),.int .i64 (hi 2),.int .i64 (lo 3),.int .i64 (hi 3)]) (.int .i64 1)).run Try.prog w = .ok (.agg #[.int .i64 (lo 1),.int .i64 (hi 1)]) w:=fun _ => by kernel_rfl
   obtain ⟨b0,b1,b2,b3,bf,bz⟩:=k3.barr
   go_wp2_with fail
   go_roundw
   case rel => exact ⟨2,2,by omega,rfl,rfl,(k2.far (p:=⟨w.heap.size + 1 + 1,1,none⟩) (by simp) _).alloc _,(by have h:=k3.set_ 1 (.int .i64 (lo 1)); rw [barr_put _ (by decide)] at h; exact h.alloc _),(hB.setCell (by simp; omega) _).alloc (hB.setCell (by simp; omega) _).size _⟩
   case measure => simp [intOf]
  ·obtain rfl : z = 2:=hz
   have hx : ∀ w,(Instr.index 91 (.agg #[.int .i64 (lo 0),.int .i64 (hi 0),.int .i64 (lo 1),.int .i64 (hi 1),.int .i64 (lo 2),.int .i64 (hi 2),.int .i64 (lo 3),.int .i64 (hi 3)]) (.int .i64 2)).run Try.prog w = .ok (.agg #[.int .i64 (lo 2),.int .i64 (hi 2)]) w:=fun _ => by kernel_rfl
   obtain ⟨b0,b1,b2,b3,bf,bz⟩:=k3.barr
   go_wp2_with fail
   go_roundw
   case rel => exact ⟨3,3,by omega,rfl,rfl,(k2.far (p:=⟨w.heap.size + 1 + 1,2,none⟩) (by simp) _).alloc _,(by have h:=k3.set_ 2 (.int .i64 (lo 2)); rw [barr_put _ (by decide)] at h; exact h.alloc _),(hB.setCell (by simp; omega) _).alloc (hB.setCell (by simp; omega) _).size _⟩
   case measure => simp [intOf]
  ·obtain rfl : z = 3:=hz
   have hx : ∀ w,(Instr.index 91 (.agg #[.int .i64 (lo 0),.int .i64 (hi 0),.int .i64 (lo 1),.int .i64 (hi 1),.int .i64 (lo 2),.int .i64 (hi 2),.int .i64 (lo 3),.int .i64 (hi 3)]) (.int .i64 3)).run Try.prog w = .ok (.agg #[.int .i64 (lo 3),.int .i64 (hi 3)]) w:=fun _ => by kernel_rfl
   obtain ⟨b0,b1,b2,b3,bf,bz⟩:=k3.barr
   go_wp2_with fail
   go_roundw
   case rel => exact ⟨4,4,by omega,rfl,rfl,(k2.far (p:=⟨w.heap.size + 1 + 1,3,none⟩) (by simp) _).alloc _,(by have h:=k3.set_ 3 (.int .i64 (lo 3)); rw [barr_put _ (by decide)] at h; exact h.alloc _),(hB.setCell (by simp; omega) _).alloc (hB.setCell (by simp; omega) _).size _⟩
   case measure => simp [intOf]
  ·obtain rfl : z = 4:=hz
   obtain ⟨a0,a1,a2,a3,af,az⟩:=k2.barr
   rw [barr_cut4] at k3
   obtain ⟨b0,b1,b2,b3,bf,bz⟩:=k3.barr
   go_wp2_with fail
   refine bodyPost_ret (v:=.agg #[.int .i64 (lo 0),.int .i64 (lo 1),.int .i64 (lo 2),.int .i64 (lo 3)]) (by simp [results,Try.results85,go_sem,a0,a1,a2,a3,af,b0,b1,b2,b3,bf]) rfl ⟨by rw [barr_def],?_⟩
   exact (((hB.setCell (by simp) _).setCell (by simp) _).setCell (by simp) _).setCell (by simp) _
set_option maxRecDepth 100000 in
set_option maxHeartbeats 2000000 in
theorem greatest_any (lo hi : Nat → Int) (w : World) :
  Calls Try.prog 108 #[.agg (xarr lo hi)] w fun e w' => e = .returned (.agg (barr hi)) ∧ Below w.heap.size w w':=by
 have K1:=((Bx.new w 91 (xarr lo hi)).alloc (.cells (barr (cutf 0 hi)) 81)).alloc (.cells (barr (cutf 0 hi)) 81)
 have K2:=(Bx.at (w.alloc (.cells (xarr lo hi) 91)) 81 (barr (cutf 0 hi)) (n:=w.heap.size + 1) (by simp)).alloc (.cells (barr (cutf 0 hi)) 81)
 have K3:=Bx.at ((w.alloc (.cells (xarr lo hi) 91)).alloc (.cells (barr (cutf 0 hi)) 81)) 81 (barr (cutf 0 hi)) (n:=w.heap.size + 1 + 1) (by simp)
 have B0:=(((Below.refl w.heap.size w).alloc (Nat.le_refl _) (.cells (xarr lo hi) 91)).alloc (by simp) (.cells (barr (cutf 0 hi)) 81)).alloc (by simp; omega) (.cells (barr (cutf 0 hi)) 81)
 obtain ⟨W1,hW1⟩ : ∃ W1,((w.alloc (.cells (xarr lo hi) 91)).alloc (.cells (barr (cutf 0 hi)) 81)).alloc (.cells (barr (cutf 0 hi)) 81) = W1:=⟨_,rfl⟩
 rw [hW1] at K1 K2 K3 B0
 rw [barr_cut0] at hW1
 have HW:=Lib.hid hW1
 clear hW1
 obtain ⟨p0,p1,p2,p3,p4,p5,p6,p7,pf,pz⟩:=K1.xarr
 go_enter Try.func108,Try.ntmps108
 go_wp2_with ((with_reducible (show wpList _ _ _ (⟨some 6,_,_,_,_,_⟩ :: _) _ _)); rw [HW.out])
 clear p0 p1 p2 p3 p4 p5 p6 p7 pf pz HW
 go_loopw [7] (fun i wr => ∃ (k : Nat) (z : Int),k ≤ 4 ∧ z = k ∧ i = .int .i64 z ∧ Bx wr (w.heap.size + 1) 81 (barr (cutf 0 hi)) ∧ Bx wr (w.heap.size + 1 + 1) 81 (barr (cutf k hi)) ∧ Below w.heap.size w wr) (fun i _ => 4 - (intOf i).toNat)
 case atStart => exact ⟨0,0,by omega,rfl,rfl,K2,K3,B0⟩
 case round =>
  clear K1 K2 K3 B0
  obtain ⟨k,z,hk,hz,rfl,k2,k3,hB⟩:=hrel
  have hs3:=k3.lt
  rcases (show k = 0 ∨ k = 1 ∨ k = 2 ∨ k = 3 ∨ k = 4 by omega) with rfl | rfl | rfl | rfl | rfl
  ·obtain rfl : z = 0:=hz
   have hx : ∀ w,(Instr.index 91 (.agg #[.int .i64 (lo 0),.int .i64 (hi 0),.int .i64 (lo 1),.int .i64 (hi 1),.int .i64 (lo 2),.int .i64 (hi 2),.int .i64 (lo 3),.int .i64 (hi 3)]) (.int .i64 0)).run Try.prog w = .ok (.agg #[.int .i64 (lo 0),.int .i64 (hi 0)]) w:=fun _ => by kernel_rfl
   obtain ⟨b0,b1,b2,b3,bf,bz⟩:=k3.barr
   go_wp2_with fail
   go_roundw
   case rel => exact ⟨1,1,by omega,rfl,rfl,(k2.far (p:=⟨w.heap.size + 1 + 1,0,none⟩) (by simp) _).alloc _,(by have h:=k3.set_ 0 (.int .i64 (hi 0)); rw [barr_put _ (by decide)] at h; exact h.alloc _),(hB.setCell (by simp; omega) _).alloc (hB.setCell (by simp; omega) _).size _⟩
   case measure => simp [intOf]
  ·obtain rfl : z = 1:=hz
   have hx : ∀ w,(Instr.index 91 (.agg #[.int .i64 (lo 0),.int .i64 (hi 0),.int .i64 (lo 1),.int .i64 (hi 1),.int .i64 (lo 2),.int .i64 (hi 2),.int .i64 (lo 3),.int .i64 (hi 3)]) (.int .i64 1)).run Try.prog w = .ok (.agg #[.int .i64 (lo 1),.int .i64 (hi 1)]) w:=fun _ => by kernel_rfl
   obtain ⟨b0,b1,b2,b3,bf,bz⟩:=k3.barr
   go_wp2_with fail
   go_roundw
   case rel => exact ⟨2,2,by omega,rfl,rfl,(k2.far (p:=⟨w.heap.size + 1 + 1,1,none⟩) (by simp) _).alloc _,(by have h:=k3.set_ 1 (.int .i64 (hi 1)); rw [barr_put _ (by decide)] at h; exact h.alloc _),(hB.setCell (by simp; omega) _).alloc (hB.setCell (by simp; omega) _).size _⟩
   case measure => simp [intOf]
  ·obtain rfl : z = 2:=hz
   have hx : ∀ w,(Instr.index 91 (.agg #[.int .i64 (lo 0),.int .i64 (hi 0),.int .i64 (lo 1),.int .i64 (hi 1),.int .i64 (lo 2),.int .i64 (hi 2),.int .i64 (lo 3),.int .i64 (hi 3)]) (.int .i64 2)).run Try.prog w = .ok (.agg #[.int .i64 (lo 2),.int .i64 (hi 2)]) w:=fun _ => by kernel_rfl
   obtain ⟨b0,b1,b2,b3,bf,bz⟩:=k3.barr
   go_wp2_with fail
   go_roundw
   case rel => exact ⟨3,3,by omega,rfl,rfl,(k2.far (p:=⟨w.heap.size + 1 + 1,2,none⟩) (by simp) _).alloc _,(by have h:=k3.set_ 2 (.int .i64 (hi 2)); rw [barr_put _ (by decide)] at h; exact h.alloc _),(hB.setCell (by simp; omega) _).alloc (hB.setCell (by simp; omega) _).size _⟩
   case measure => simp [intOf]
  ·obtain rfl : z = 3:=hz
   have hx : ∀ w,(Instr.index 91 (.agg #[.int .i64 (lo 0),.int .i64 (hi 0),.int .i64 (lo 1),.int .i64 (hi 1),.int .i64 (lo 2),.int .i64 (hi 2),.int .i64 (lo 3),.int .i64 (hi 3)]) (.int .i64 3)).run Try.prog w = .ok (.agg #[.int .i64 (lo 3),.int .i64 (hi 3)]) w:=fun _ => by kernel_rfl
   obtain ⟨b0,b1,b2,b3,bf,bz⟩:=k3.barr
   go_wp2_with fail
   go_roundw
   case rel => exact ⟨4,4,by omega,rfl,rfl,(k2.far (p:=⟨w.heap.size + 1 + 1,3,none⟩) (by simp) _).alloc _,(by have h:=k3.set_ 3 (.int .i64 (hi 3)); rw [barr_put _ (by decide)] at h; exact h.alloc _),(hB.setCell (by simp; omega) _).alloc (hB.setCell (by simp; omega) _).size _⟩
   case measure => simp [intOf]
  ·obtain rfl : z = 4:=hz
   obtain ⟨a0,a1,a2,a3,af,az⟩:=k2.barr
   rw [barr_cut4] at k3
   obtain ⟨b0,b1,b2,b3,bf,bz⟩:=k3.barr
   go_wp2_with fail
   refine bodyPost_ret (v:=.agg #[.int .i64 (hi 0),.int .i64 (hi 1),.int .i64 (hi 2),.int .i64 (hi 3)]) (by simp [results,Try.results108,go_sem,a0,a1,a2,a3,af,b0,b1,b2,b3,bf]) rfl ⟨by rw [barr_def],?_⟩
   exact (((hB.setCell (by simp) _).setCell (by simp) _).setCell (by simp) _).setCell (by simp) _
set_option maxRecDepth 100000 in
set_option maxHeartbeats 2000000 in
theorem only_any (f : Nat → Int) (w : World) :
  Calls Try.prog 103 #[.agg (barr f)] w fun e w' => e = .returned (.agg (xarr f f)) ∧ Below w.heap.size w w':=by
 have K1:=((Bx.new w 81 (barr f)).alloc (.cells (xarr (cutf 0 f) (cutf 0 f)) 91)).alloc (.cells (xarr (cutf 0 f) (cutf 0 f)) 91)
 have K2:=(Bx.at (w.alloc (.cells (barr f) 81)) 91 (xarr (cutf 0 f) (cutf 0 f)) (n:=w.heap.size + 1) (by simp)).alloc (.cells (xarr (cutf 0 f) (cutf 0 f)) 91)
 have K3:=Bx.at ((w.alloc (.cells (barr f) 81)).alloc (.cells (xarr (cutf 0 f) (cutf 0 f)) 91)) 91 (xarr (cutf 0 f) (cutf 0 f)) (n:=w.heap.size + 1 + 1) (by simp)
 have B0:=(((Below.refl w.heap.size w).alloc (Nat.le_refl _) (.cells (barr f) 81)).alloc (by simp) (.cells (xarr (cutf 0 f) (cutf 0 f)) 91)).alloc (by simp; omega) (.cells (xarr (cutf 0 f) (cutf 0 f)) 91)
 obtain ⟨W1,hW1⟩ : ∃ W1,((w.alloc (.cells (barr f) 81)).alloc (.cells (xarr (cutf 0 f) (cutf 0 f)) 91)).alloc (.cells (xarr (cutf 0 f) (cutf 0 f)) 91) = W1:=⟨_,rfl⟩
 rw [hW1] at K1 K2 K3 B0
 rw [xarr_cut0] at hW1
 have HW:=Lib.hid hW1
 clear hW1
 obtain ⟨p0,p1,p2,p3,pf,pz⟩:=K1.barr
 go_enter Try.func103,Try.ntmps103
 go_wp2_with ((with_reducible (show wpList _ _ _ (⟨some 6,_,_,_,_,_⟩ :: _) _ _)); rw [HW.out])
 clear p0 p1 p2 p3 pf pz HW
 go_loopw [7] (fun i wr => ∃ (k : Nat) (z : Int),k ≤ 4 ∧ z = k ∧ i = .int .i64 z ∧ Bx wr (w.heap.size + 1) 91 (xarr (cutf 0 f) (cutf 0 f)) ∧ Bx wr (w.heap.size + 1 + 1) 91 (xarr (cutf k f) (cutf k f)) ∧ Below w.heap.size w wr) (fun i _ => 4 - (intOf i).toNat)
 case atStart => exact ⟨0,0,by omega,rfl,rfl,K2,K3,B0⟩
 case round =>
  clear K1 K2 K3 B0
  obtain ⟨k,z,hk,hz,rfl,k2,k3,hB⟩:=hrel
  have hs3:=k3.lt
  rcases (show k = 0 ∨ k = 1 ∨ k = 2 ∨ k = 3 ∨ k = 4 by omega) with rfl | rfl | rfl | rfl | rfl
  ·obtain rfl : z = 0:=hz
   have hx : ∀ w,(Instr.index 81 (.agg #[.int .i64 (f 0),.int .i64 (f 1),.int .i64 (f 2),.int .i64 (f 3)]) (.int .i64 0)).run Try.prog w = .ok (.int .i64 (f 0)) w:=fun _ => by kernel_rfl
   obtain ⟨b0,b1,b2,b3,b4,b5,b6,b7,bf,bz⟩:=k3.xarr
   go_wp2_with fail
   go_roundw
   case rel => exact ⟨1,1,by omega,rfl,rfl,(k2.far (p:=⟨w.heap.size + 1 + 1,0,none⟩) (by simp) _).far (p:=⟨w.heap.size + 1 + 1,1,none⟩) (by simp) _,(by have h:=(k3.set_ 0 (.int .i64 (f 0))).set_ 1 (.int .i64 (f 0)); rw [xarr_put (k:=0) f f (by decide)] at h; exact h),(hB.setCell (by simp; omega) _).setCell (by simp; omega) _⟩
   case measure => simp [intOf]
  ·obtain rfl : z = 1:=hz
   have hx : ∀ w,(Instr.index 81 (.agg #[.int .i64 (f 0),.int .i64 (f 1),.int .i64 (f 2),.int .i64 (f 3)]) (.int .i64 1)).run Try.prog w = .ok (.int .i64 (f 1)) w:=fun _ => by kernel_rfl
   obtain ⟨b0,b1,b2,b3,b4,b5,b6,b7,bf,bz⟩:=k3.xarr
   go_wp2_with fail
   go_roundw
   case rel => exact ⟨2,2,by omega,rfl,rfl,(k2.far (p:=⟨w.heap.size + 1 + 1,2,none⟩) (by simp) _).far (p:=⟨w.heap.size + 1 + 1,3,none⟩) (by simp) _,(by have h:=(k3.set_ 2 (.int .i64 (f 1))).set_ 3 (.int .i64 (f 1)); rw [xarr_put (k:=1) f f (by decide)] at h; exact h),(hB.setCell (by simp; omega) _).setCell (by simp; omega) _⟩
   case measure => simp [intOf]
  ·obtain rfl : z = 2:=hz
   have hx : ∀ w,(Instr.index 81 (.agg #[.int .i64 (f 0),.int .i64 (f 1),.int .i64 (f 2),.int .i64 (f 3)]) (.int .i64 2)).run Try.prog w = .ok (.int .i64 (f 2)) w:=fun _ => by kernel_rfl
   obtain ⟨b0,b1,b2,b3,b4,b5,b6,b7,bf,bz⟩:=k3.xarr
   go_wp2_with fail
   go_roundw
   case rel => exact ⟨3,3,by omega,rfl,rfl,(k2.far (p:=⟨w.heap.size + 1 + 1,4,none⟩) (by simp) _).far (p:=⟨w.heap.size + 1 + 1,5,none⟩) (by simp) _,(by have h:=(k3.set_ 4 (.int .i64 (f 2))).set_ 5 (.int .i64 (f 2)); rw [xarr_put (k:=2) f f (by decide)] at h; exact h),(hB.setCell (by simp; omega) _).setCell (by simp; omega) _⟩
   case measure => simp [intOf]
  ·obtain rfl : z = 3:=hz
   have hx : ∀ w,(Instr.index 81 (.agg #[.int .i64 (f 0),.int .i64 (f 1),.int .i64 (f 2),.int .i64 (f 3)]) (.int .i64 3)).run Try.prog w = .ok (.int .i64 (f 3)) w:=fun _ => by kernel_rfl
   obtain ⟨b0,b1,b2,b3,b4,b5,b6,b7,bf,bz⟩:=k3.xarr
   go_wp2_with fail
   go_roundw
   case rel => exact ⟨4,4,by omega,rfl,rfl,(k2.far (p:=⟨w.heap.size + 1 + 1,6,none⟩) (by simp) _).far (p:=⟨w.heap.size + 1 + 1,7,none⟩) (by simp) _,(by have h:=(k3.set_ 6 (.int .i64 (f 3))).set_ 7 (.int .i64 (f 3)); rw [xarr_put (k:=3) f f (by decide)] at h; exact h),(hB.setCell (by simp; omega) _).setCell (by simp; omega) _⟩
   case measure => simp [intOf]
  ·obtain rfl : z = 4:=hz
   obtain ⟨a0,a1,a2,a3,a4,a5,a6,a7,af,az⟩:=k2.xarr
   rw [xarr_cut4] at k3
   obtain ⟨b0,b1,b2,b3,b4,b5,b6,b7,bf,bz⟩:=k3.xarr
   go_wp2_with fail
   refine bodyPost_ret (v:=.agg #[.int .i64 (f 0),.int .i64 (f 0),.int .i64 (f 1),.int .i64 (f 1),.int .i64 (f 2),.int .i64 (f 2),.int .i64 (f 3),.int .i64 (f 3)]) (by simp [results,Try.results103,go_sem,a0,a1,a2,a3,a4,a5,a6,a7,af,b0,b1,b2,b3,b4,b5,b6,b7,bf]) rfl ⟨by rw [xarr_def],?_⟩
   exact (((((((hB.setCell (by simp) _).setCell (by simp) _).setCell (by simp) _).setCell (by simp) _).setCell (by simp) _).setCell (by simp) _).setCell (by simp) _).setCell (by simp) _
end Go.Proofs.Ytmemcopfeabcgaa
