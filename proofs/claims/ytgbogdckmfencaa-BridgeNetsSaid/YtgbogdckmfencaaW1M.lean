/- The law of Rel in the form in which it is used: the relations as a list, each step as an operation's own walk. -/
import Derived.Test.YtgbogdckmfencaaRel
import Derived.Test.YtgbogdckmfencaaReachM
import Derived.Test.YtgbogdckmfencaaFolM
set_option linter.unusedSimpArgs false
set_option linter.unusedVariables false
namespace Go.Proofs.Ytgbogdckmfencaa.RegRel
open Go Go.RowKit
abbrev RelL:=List (Nat × ((Nat → Value) → World → Prop))
def AllL {α : Type} : List α → (α → Prop) → Prop
 | [],_ => True
 | p :: r,φ => φ p ∧ AllL r φ
theorem allL_iff {α : Type} {L : List α} {φ : α → Prop} : AllL L φ ↔ ∀ p ∈ L,φ p:=by
 induction L with
 | nil => simp [AllL]
 | cons p r ih => simp [AllL,ih]
section
variable {P : Program} {ops : Array Oper} {Q : Exit → Act → World → Prop} {S : World → Prop} {G : Nat → Bool}
theorem wpOps_go {i : Nat} {o : Oper} {rest : List Nat} {a : Act} {w : World} (ho : ops[i]? = some o) (hg : o.guard = none) (h : o.wp P a w (wpOps P ops Q rest) Q) : wpOps P ops Q (i :: rest) a w:=by
 unfold wpOps
 rw [ho]
 show if Region.wanted o (yielded ops a.tmps) = true then _ else _
 rw [if_pos (by simp [Region.wanted,hg])]
 exact .inl h
theorem wpOps_end {a : Act} {w : World} (h : Q .normal a w) : wpOps P ops Q [] a w:=h
def NoExit : Exit → Act → World → Prop:=fun _ _ _ => False
/-- One operation's step. -/
def StepL (P : Program) (ops : Array Oper) (tab : List (Nat × Nat)) (a : Act) (vs : Nat → Value) (w1 : World) (p : Nat × ((Nat → Value) → World → Prop)) : Prop :=
 ∃ o d,ops[p.1]? = some o ∧ o.dst = some d ∧
  o.wp P { tmps:=fillT tab vs a.tmps,defers:=a.defers } w1 (fun a2 w2 => p.2 (upd vs p.1 (a2.tmps.getD d undef)) w2 ∧ Below w1.heap.size w1 w2 ∧ a2.defers = a.defers) NoExit
theorem AnyG.rel {w : World} {a : Act} {listed : Array Bool} {fuel : Nat} (D Z : List Nat) (pre : List (List Nat)) (tab : List (Nat × Nat)) (L : RelL)
  (hck : regOk ops pre tab D Z a.tmps.size = true)
  (hck2 : ((List.range ops.size).all (fun i => listed.getD i false == D.contains i && (D.contains i || Z.contains i || (L.lookup i).isSome)) && listed.size == ops.size && decide (undone listed ≤ fuel) && (D ++ Z).all (fun z => decide (z < ops.size) && (!Z.contains z || (!G z && !D.contains z)))) = true)
  (hck3' : ((L.map (·.1)).all (fun i => !D.contains i && !Z.contains i && decide (i < ops.size)) && decide ((L.map (·.1)).Pairwise (· ≠ ·))) = true)
  (hch : Z.Pairwise (fun x y => x ∈ pre.getD y [] ∧ x ≠ y)) (hnd : tab.Pairwise (fun x y => x.1 ≠ y.1)) (hS : ∀ w',Below w.heap.size w w' → S w')
  (hst : AllL L fun p => ∀ vs w1 w2,p.2 vs w1 → Below w1.heap.size w1 w2 → p.2 vs w2)
  (hcg : AllL L fun p => ∀ vs vs' w1,(∀ k,k = p.1 ∨ k ∈ pre.getD p.1 [] → vs' k = vs k) → p.2 vs w1 → p.2 vs' w1)
  (hstep : AllL L fun p => ∀ vs w1,AllL (L.filter fun q => (pre.getD p.1 []).contains q.1) (fun q => q.2 vs w1) → Below w.heap.size w w1 → StepL P ops tab a vs w1 p)
  (hfin : ∀ vs w1,AllL L (fun p => p.2 vs w1) → Below w.heap.size w w1 →
   wpOps P ops Q Z { tmps:=fillT (tab.filter fun p => !Z.contains p.2) vs a.tmps,defers:=a.defers } w1) : AnyG P .any ops Q S G fuel listed a w:=by
 have hck3 : (L.map (·.1)).all (fun i => !D.contains i && !Z.contains i && decide (i < ops.size)) = true ∧ (L.map (·.1)).Pairwise (· ≠ ·):=by
  rw [Bool.and_eq_true] at hck3'
  exact ⟨hck3'.1,of_decide_eq_true hck3'.2⟩
 have hlk : ∀ (M : RelL),(M.map (·.1)).Pairwise (· ≠ ·) → ∀ p ∈ M,M.lookup p.1 = some p.2:=by
  intro M
  induction M with
  | nil => intro _ p hp; cases hp
  | cons q r ih =>
   intro hp p hm
   obtain ⟨x,y⟩:=q
   rw [List.map_cons,List.pairwise_cons] at hp
   rcases List.mem_cons.1 hm with rfl | hm
   ·simp
   ·have : (p.1 == x) = false:=by
     have:=hp.1 p.1 (List.mem_map_of_mem hm)
     simpa using fun e => this e.symm
    rw [List.lookup_cons,this]
    exact ih hp.2 p hm
 refine any_rel D Z pre tab L hck hck2 hch hnd hS (allL_iff.1 hst) (allL_iff.1 hcg) (fun p hp o ho vs w1 hq hb => ?_) (fun vs w1 hR hb => hfin vs w1 (allL_iff.2 fun p hp => ?_) hb)
 ·obtain ⟨o',d,ho',hd,hw⟩:=allL_iff.1 hstep p hp vs w1 (allL_iff.2 fun q hq' => by
   obtain ⟨hm,hc⟩:=List.mem_filter.1 hq'
   exact hq q hm (by simpa using hc) (hlk L hck3.2 q hm)) hb
  rw [ho] at ho'
  obtain rfl : o = o':=Option.some.inj ho'
  have hpD : p.1 ∉ D:=by
   have:=List.all_eq_true.1 hck3.1 p.1 (List.mem_map_of_mem hp)
   simp at this; exact this.1.1
  have F:=fit_of hck ho hpD
  have hds : d < a.tmps.size:=(F.dst d hd).1
  have hev : execOp (Act.eval { tmps:=fillT tab vs a.tmps,defers:=a.defers }) o = execOp (evT tab a vs) o:=by
   refine execOp_congr o F.sel fun x _ => ?_
   cases x with
   | tmp t =>
    simp only [Act.eval,evT]
    rcases Nat.lt_or_ge t a.tmps.size with ht | ht
    ·exact fillT_get vs t tab a.tmps hnd ht
    ·have h1 : (fillT tab vs a.tmps).getD t undef = undef:=by
      rw [Array.getD_eq_getD_getElem?,Array.getElem?_eq_none (by rw [fillT_size]; exact ht)]; rfl
     have h2 : a.tmps.getD t undef = undef:=by
      rw [Array.getD_eq_getD_getElem?,Array.getElem?_eq_none ht]; rfl
     rw [h1]
     cases hl : tab.lookup t with
     | none => exact h2.symm
     | some k =>
      exfalso
      have h3:=tab_of hck hl
      cases hok : ops[k]? with
      | none => rw [hok] at h3; simp at h3
      | some ok =>
       rw [hok] at h3
       have:=((fit_of hck hok (tab_nd hck hl)).dst t (by simpa using h3)).1
       exact absurd this (Nat.not_lt.2 ht)
   | const v => rfl
   | global g => rfl
   | func f => rfl
  unfold Oper.wp at hw
  rw [hev] at hw
  unfold Does
  have hput : ∀ v,(Act.put { tmps:=fillT tab vs a.tmps,defers:=a.defers } o.dst v).tmps.getD d undef = v:=by
   intro v
   rw [hd]
   simp [Act.put,fillT_size,hds]
  generalize (execOp (evT tab a vs) o).run P w1 = r at hw ⊢
  cases r with
  | ok n w' =>
   cases n <;> simp only [Oper.upon] at hw ⊢
   case value v => rw [hput] at hw; exact ⟨hw.1,hw.2.1⟩
   case skip => rw [hput] at hw; exact ⟨hw.1,hw.2.1⟩
   case enter f args =>
    refine Calls.mono hw fun e w'' he => ?_
    cases e with
    | returned v => simp only at he; rw [hput] at he; exact ⟨v,rfl,he.1,he.2.1⟩
    | panicked c => exact he.elim
    | outgrown => obtain ⟨_,_,h⟩:=he; exact h.elim
   case row row args => exact Rows.mono hw fun v w'' he => by rw [hput] at he; exact ⟨he.1,he.2.1⟩
   case defer d' =>
    have:=congrArg List.length hw.2.2
    rw [hd] at this
    simp [Act.put] at this
  | halt x w' =>
   cases x <;> simp only [Oper.upon] at hw
   all_goals first | exact hw.elim
 ·have:=List.all_eq_true.1 hck3.1 p.1 (List.mem_map_of_mem hp)
  simp at this
  exact hR p hp this.1.1 this.1.2 this.2 (hlk L hck3.2 p hp)
end
end Go.Proofs.Ytgbogdckmfencaa.RegRel

/-! In a round of a range over a function: a region that draws its order, by the laws of Reg and Rl. -/
namespace Go.Proofs.Ytgbogdckmfencaa
open Go Go.RowKit Go.Shelf
section
variable {P : Program} {ops : Array Oper} {Q : Exit → Act → World → Prop} {S : World → Prop} {G : Nat → Bool} {l n : Nat}
def noDefer (ops : Array Oper) : Bool:=ops.all fun o => match o.op with | .defer _ => false | _ => true
theorem wpOpIn_of (hQ : ¬ LetsOut Q) (hd : noDefer ops = true) (hrow : ∀ row args w R,Rows P row args w R → RowsIn (Fence.wide.inRound l) (n - 1) P row args w R) {i : Nat} {K : Act → World → Prop} {a : Act} {w : World}
  (h : wpOp P ops Q i K a w) : wpOpIn (Fence.wide.inRound l) n P ops Q i K a w:=by
 unfold wpOp at h
 unfold wpOpIn
 cases ho : ops[i]? with
 | none => rw [ho] at h; exact h
 | some o =>
  rw [ho] at h
  simp only at h ⊢
  by_cases hw : Region.wanted o (yielded ops a.tmps) = true
  ·rw [if_pos hw] at h ⊢
   rcases h with h | h
   ·have hnd : ∀ c,o.op ≠ .defer c:=fun c hc => by
     have hm : o ∈ ops:=Array.mem_of_getElem? ho
     have:=Array.all_eq_true'.1 hd o hm
     rw [hc] at this; cases this
    refine ⟨fun _ _ => trivial,?_⟩
    rw [show (Fence.wide.inRound l).round = some l from rfl,Oper.semAt_some l a.eval o hnd]
    unfold Oper.wp at h
    generalize (execOp a.eval o).run P w = r at h ⊢
    cases r with
    | ok x w' =>
     cases x <;> simp only [Oper.upon,Oper.uponIn] at h ⊢
     case enter f args => exact ⟨fun hh => by simp [Fence.wide] at hh,CallsIn.inRound l (callsIn_wide.2 h)⟩
     case row row args => exact ⟨fun hh => by simp [Fence.wide] at hh,hrow _ _ _ _ h⟩
     all_goals exact h
    | halt x w' => cases x <;> simp only [Oper.upon,Oper.uponIn] at h ⊢ <;> exact h
   ·exact absurd h.2 hQ
  ·rw [if_neg hw] at h ⊢
   exact ⟨fun _ _ => trivial,h⟩
theorem wpAnyIn_of (hQ : ¬ LetsOut Q) (hd : noDefer ops = true) (hrow : ∀ row args w R,Rows P row args w R → RowsIn (Fence.wide.inRound l) (n - 1) P row args w R) : ∀ (fuel : Nat) (listed : Array Bool) (a : Act) (w : World),
  wpAny P .any ops Q fuel listed a w → wpAnyIn (Fence.wide.inRound l) n P .any ops Q fuel listed a w
 | 0,_,_,_,h => h
 | fuel + 1,_,_,_,h => ⟨h.1,fun i hi => wpOpIn_of hQ hd hrow (wpOp_mono (fun a' w' h' => wpAnyIn_of hQ hd hrow fuel _ a' w' h') (h.2 i hi))⟩
/-- The marks that ranges over functions have left among the deferred calls: each a block of its own, with no call in it. -/
def Marks (B : Nat) (W : World) (ds : List Deferred) : Prop:=∃ Ds : List Nat,ds = Ds.map (fun D => { target:=.collected D,args:=#[] }) ∧ Ds.Nodup ∧ ∀ D ∈ Ds,B ≤ D ∧ W.heap[D]? = some (.deferred (some []))
theorem Marks.nil (B : Nat) (W : World) : Marks B W []:=⟨[],rfl,List.nodup_nil,fun _ h => by cases h⟩
theorem Marks.kept {B : Nat} {W W' : World} {ds : List Deferred} (h : Marks B W ds) (hk : ∀ (k : Nat) (o : Obj),B ≤ k → W.heap[k]? = some o → o.isCells = false → W'.heap[k]? = some o) : Marks B W' ds:=by
 obtain ⟨Ds,h1,h2,h3⟩:=h
 exact ⟨Ds,h1,h2,fun D hD => ⟨(h3 D hD).1,hk D _ (h3 D hD).1 (h3 D hD).2 rfl⟩⟩
theorem Marks.call {B : Nat} {W W' : World} {ds : List Deferred} (h : Marks B W ds) (hb : Below W.heap.size W W') : Marks B W' ds :=
 h.kept fun k _ _ ho _ => (hb.block k (Array.getElem?_eq_some_iff.1 ho).1).trans ho
theorem Marks.more {B D : Nat} {W : World} {ds : List Deferred} (h : Marks B W ds) (hB : B ≤ D) (hD : W.heap[D]? = some (.deferred (some []))) (hn : ∀ d ∈ ds,∀ D',d.target = .collected D' → D' ≠ D) : Marks B W ({ target:=.collected D,args:=#[] } :: ds):=by
 obtain ⟨Ds,rfl,h2,h3⟩:=h
 refine ⟨D :: Ds,rfl,List.nodup_cons.2 ⟨fun hm => hn _ (List.mem_map_of_mem hm) D rfl rfl,h2⟩,fun D' hD' => ?_⟩
 rcases List.mem_cons.1 hD' with rfl | h
 ·exact ⟨hB,hD⟩
 ·exact h3 D' h
theorem Marks.lt {B : Nat} {W : World} {ds : List Deferred} (h : Marks B W ds) : ∀ d ∈ ds,∀ D',d.target = .collected D' → D' < W.heap.size:=by
 obtain ⟨Ds,rfl,h2,h3⟩:=h
 intro d hd D' e
 obtain ⟨D,hD,rfl⟩:=List.mem_map.1 hd
 injection e with e
 exact e ▸ (Array.getElem?_eq_some_iff.1 (h3 D hD).2).1
/-- A function leaves through its marks. -/
theorem leavesM_marks {fn : Func} {tmps : Array Value} {R : Ending → World → Prop} {F : Fence} {B : Nat} : ∀ (ds : List Deferred) (W : World),Marks B W ds →
  (∀ W',Below B W W' → (∀ k,(∀ d ∈ ds,d.target ≠ .collected k) → W'.heap[k]? = W.heap[k]?) → W'.heap.size = W.heap.size → ∃ v,(results fn tmps).run P W' = .ok v W' ∧ R (.returned v) W') → LeavesInM F n P fn tmps R ds .returning W:=by
 intro ds
 induction ds with
 | nil => intro W _ h; exact h W (Below.refl _ _) (fun _ _ => rfl) rfl
 | cons d ds ih =>
  intro W hM h
  obtain ⟨Ds,e,h2,h3⟩:=hM
  cases Ds with
  | nil => cases e
  | cons D Ds =>
   simp only [List.map_cons,List.cons.injEq] at e
   obtain ⟨rfl,rfl⟩:=e
   rw [List.nodup_cons] at h2
   have hD:=h3 D (by simp)
   have hlt:=(Array.getElem?_eq_some_iff.1 hD.2).1
   refine ⟨by simp,.inl ⟨D,_,rfl,run_takeDeferred hD.2,ih _ ⟨Ds,rfl,h2.2,fun D' hD' => ⟨(h3 D' (List.mem_cons_of_mem _ hD')).1,?_⟩⟩ fun W' hb hk hs => ?_⟩⟩
   ·rw [World.putObj_heap_other (fun e : D' = D => h2.1 (by rw [← e]; exact hD'))]; exact (h3 D' (List.mem_cons_of_mem _ hD')).2
   ·refine h W' (((Below.refl B W).grown (grownBy_putObj' W D (.deferred none)) (by omega) (fun k e => by cases e; exact hD.1)).trans hb) (fun k hk' => ?_) (hs.trans (by simp [World.putObj]))
    rw [hk k (fun d hd => hk' d (List.mem_cons_of_mem _ hd)),World.putObj_heap_other (fun e => hk' _ (List.mem_cons_self ..) (by rw [e]))]
theorem rows_wide {n : Nat} (row : String) (args : Array Value) (w : World) (R : Value → World → Prop) (h : Rows P row args w R) : RowsIn (Fence.wide.inRound l) n P row args w R :=
 fun c cs _ => let ⟨v,w',r,s⟩:=h c cs; ⟨v,w',r,stepsIn_wide.2 s⟩
/-- The beginning, in a round. -/
theorem AnyG.startIn {id : Nat} {a : Act} {w : World} (S : World → Prop) (G : Nat → Bool) (hm : P.follows .mixedOrders = true) (hd : noDefer ops = true) (hQ : ∀ a w,¬ Q .outgrown a w)
  (h : AnyG P .any ops Q S G ops.size (Array.replicate ops.size false) a w.drew) : (Code.region id ops true).wpIn (Fence.wide.inRound l) n P Q a w :=
 wpIn_region_any hm (wpAnyIn_of (fun ⟨a,w,h⟩ => hQ a w h) hd (fun row args w R h => rows_wide row args w R h) _ _ _ _ (AnyG.any _ _ _ _ h))
end
end Go.Proofs.Ytgbogdckmfencaa

/-! W1 -/
namespace Go.Proofs.Ytgbogdckmfencaa
open Go.RowKit Go.Maps
attribute [local go_sem ↓] Go.wp_at_zero Go.wp_at_succ
/-! helpers -/
theorem cellA {w : World} {o : Obj} {a : Addr} {v : Value} (h : w.cell? a = some v) : (w.alloc o).cell? a = some v:=(World.cell?_alloc_lt _ _ _ (World.block_lt_of_cell? w _ h)).trans h
theorem cellD {w : World} {a : Addr} {v : Value} (h : w.cell? a = some v) : w.drew.cell? a = some v:=h
theorem cellC {W w1 : World} (hb : Below W.heap.size W w1) {a : Addr} {v : Value} (h : W.cell? a = some v) : w1.cell? a = some v:=(hb.cell (World.block_lt_of_cell? W _ h)).trans h
def ldRng (st : Int) (e : Ev) (z : Int) : Int × Int:=(max (e.sh - st / 2 + -z) (ldLo e.kd e.ld),min (e.sh - st / 2 + st - 1 + -z) (ldHi e.kd e.ld))
/-- What an event with a zero adds to the net weight. -/
def wgt (st : Int) (e : Ev) (F B : List Int) (k z : Int) : Int × Int:=if B.contains k then (-(ldRng st e z).2,-(ldRng st e z).1) else if F.contains k then ldRng st e z else (0,0)
theorem zero3 (w : World) : (zeroValue 3).run Try.prog w = .ok (.int .i64 0) w:=by kernel_rfl
theorem ownsMap_below {W w1 : World} {B : Nat} {m n : Nat} {D : DataW Unit} (h : W.ownsMap Try.prog 3 (plainElem Try.prog 3) m n D) (hb : Below B W w1) (hm : m < B) : w1.ownsMap Try.prog 3 (plainElem Try.prog 3) m n D:=by
 obtain ⟨es,clock,h1,h2⟩:=h
 exact ⟨es,clock,(hb.block m hm).trans h1,h2⟩
theorem wgt_B {st : Int} {e : Ev} {F B : List Int} {k z : Int} (h : B.contains k = true) : wgt st e F B k z = (-(ldRng st e z).2,-(ldRng st e z).1):=by unfold wgt; rw [if_pos h]
theorem wgt_F {st : Int} {e : Ev} {F B : List Int} {k z : Int} (h : ¬ B.contains k = true) (h2 : F.contains k = true) : wgt st e F B k z = ldRng st e z:=by unfold wgt; rw [if_neg h,if_pos h2]
theorem wgt_0 {st : Int} {e : Ev} {F B : List Int} {k z : Int} (h : ¬ B.contains k = true) (h2 : ¬ F.contains k = true) : wgt st e F B k z = (0,0):=by unfold wgt; rw [if_neg h,if_neg h2]
set_option maxRecDepth 100000 in
set_option maxHeartbeats 4000000 in
theorem weigher1_any (st z0 z1 : Int) (A : Option Addr) (n c : Nat) (es : List Ev) (gl gm m : Nat) (F B : List Int) (k : Nat) (z : Int) (w : World) (s1 : 1 ≤ st) (s2 : st ≤ 100) (hn : n ≤ 14) (hl : es.length = n) (hA : EvsAt w w.heap.size A es) (e : Ev) (he : es[k]? = some e) (hok : EvOk e) (hz1 : -200 ≤ z) (hz2 : z ≤ 200)
  (k1 : Bx w gl 26 #[.int .i64 st,.int .i64 z0,.int .i64 z1,.slice A n c]) (k2 : Bx w gm 113 #[.map (some m)]) (hown : w.ownsMap Try.prog 3 (plainElem Try.prog 3) m 8 (wmap F B)) :
  Calls Try.prog 97 #[.int .i64 k,.int .i64 z,.pointer (some ⟨gl,0,none⟩),.pointer (some ⟨gm,0,none⟩)] w fun r w' => r = .returned (.agg #[.int .i64 (wgt st e F B k z).1,.int .i64 (wgt st e F B k z).2]) ∧ Below w.heap.size w w':=by
 have K2:=Lib.hid k2
 have HOWN:=Lib.hid hown
 clear hown
 have hke : k < es.length:=(List.getElem?_eq_some_iff.1 he).1
 obtain ⟨ad,rfl,hab,q0,q1,q2,q3,q4⟩:=hA.at_ hke
 have hee : es[k] = e:=by rw [List.getElem?_eq_getElem hke] at he; exact Option.some.inj he
 rw [hee] at q0 q1 q2 q3 q4
 obtain ⟨hkd,sh1,sh2,ld1,ld2,_,hc1,hc2,hc3⟩:=hok
 clear hee he hA
 have hi0 : (0 : Int) ≤ (k : Int):=by omega
 have hi2 : (k : Int) < (n : Int):=by omega
 clear hl hke
 obtain ⟨a0,a1,a2,a3,af,az⟩:=k1.four
 obtain ⟨kd,sh,ld,c0,c1⟩:=e
 simp only at q0 q1 q2 q3 q4 hkd sh1 sh2 ld1 ld2 hc1 hc2 hc3
 go_enter Try.func97,Try.ntmps97
 go_upto_region 1 with fail
 go_cut [7] (fun v7 wr => ∃ g7 : Nat,v7 = .pointer (some ⟨g7,0,none⟩) ∧ w.heap.size < g7 ∧ Bx wr g7 23 #[.int .i64 (sh - st / 2),.int .i64 (sh - st / 2 + st - 1)] ∧ Below (w.heap.size + 1) (w.alloc (.cells #[.int .i64 0,.int .i64 0] 23)) wr)
 case first =>
  go_region_held3 (fun w' => w'.cell? ⟨gl,0,none⟩ = some (.int .i64 st) ∧ w'.cell? ⟨gl,3,none⟩ = some (.slice (some ad) n c) ∧ w'.cell? (ad.add (k * 5)) = some (.int .i64 kd) ∧ w'.cell? ⟨(ad.add (k * 5)).block,(ad.add (k * 5)).off + 1,none⟩ = some (.int .i64 sh) ∧ w'.cell? ⟨(ad.add (k * 5)).block,(ad.add (k * 5)).off + 2,none⟩ = some (.int .i64 ld) ∧ w'.cell? ⟨(ad.add (k * 5)).block,(ad.add (k * 5)).off + 3,none⟩ = some (.int .i64 c0) ∧ w'.cell? ⟨(ad.add (k * 5)).block,(ad.add (k * 5)).off + 4,none⟩ = some (.int .i64 c1))
   (first | (go_keep; done) | (((try dsimp only); (repeat' apply And.intro) <;> (repeat (first | assumption | refine cellA ?_ | refine cellD ?_))); done))
   (first | (go_at_call 98; refine (onBridge_w st kd sh ld c0 c1 _ s1 s2 sh1 sh2).mono ?_; rintro r w1 ⟨rfl,rfl⟩))
  all_goals
   go_wp2_with fail
   go_meet
   refine ⟨_,rfl,by omega,?_,?_⟩
   ·repeat (first | (refine Bx.at _ _ _ ?_; simp; done) | refine Bx.drew ?_ | refine Bx.alloc ?_ _)
   ·repeat (first | exact Below.refl _ _ | refine Below.drew ?_ | refine Below.alloc ?_ (by simp; try omega) _)
 case rest =>
  obtain ⟨g7,rfl,hg7,k7,hB7⟩:=hcut
  replace k1:=(k1.alloc (.cells #[.int .i64 0,.int .i64 0] 23)).below hB7 (by omega)
  replace k2:=(k2.alloc (.cells #[.int .i64 0,.int .i64 0] 23)).below hB7 (by have:=k2.lt; omega)
  have k6:=(Bx.new w 23 #[.int .i64 0,.int .i64 0]).below hB7 (by omega)
  have hab' : (ad.add (k * 5)).block < w.heap.size:=by rw [add_block]; exact hab
  replace q0:=(hB7.cell (p:=ad.add (k * 5)) (by omega)).trans (cellA q0)
  replace q1:=(hB7.cell (p:=⟨(ad.add (k * 5)).block,(ad.add (k * 5)).off + 1,none⟩) (by simp; omega)).trans (cellA q1)
  replace q2:=(hB7.cell (p:=⟨(ad.add (k * 5)).block,(ad.add (k * 5)).off + 2,none⟩) (by simp; omega)).trans (cellA q2)
  replace q3:=(hB7.cell (p:=⟨(ad.add (k * 5)).block,(ad.add (k * 5)).off + 3,none⟩) (by simp; omega)).trans (cellA q3)
  replace q4:=(hB7.cell (p:=⟨(ad.add (k * 5)).block,(ad.add (k * 5)).off + 4,none⟩) (by simp; omega)).trans (cellA q4)
  obtain ⟨a0,a1,a2,a3,af,az⟩:=k1.four
  obtain ⟨t0,t1,tf,tz⟩:=k7.two
  have b1:=ldLo_bd kd ld ld1 ld2
  obtain ⟨l1,l2,l3,l4⟩:=b1
  have bb1 : -1000000000000 ≤ sh - st / 2:=by omega
  have bb2 : sh - st / 2 ≤ 1000000000000:=by omega
  have bb3 : -1000000000000 ≤ sh - st / 2 + st - 1:=by omega
  have bb4 : sh - st / 2 + st - 1 ≤ 1000000000000:=by omega
  have bb5 : -1000000000000 ≤ -z:=by omega
  have bb6 : -z ≤ 1000000000000:=by omega
  have hwz : IntKind.i64.wrap (-z) = -z:=IntWalk.i64_in _ (by omega)
  go_upto_region 2 with fail
  go_cut [8] (fun v8 wr => ∃ g8 : Nat,v8 = .pointer (some ⟨g8,0,none⟩) ∧ Bx wr g8 23 #[.int .i64 (max (sh - st / 2 + -z) (ldLo kd ld)),.int .i64 (min (sh - st / 2 + st - 1 + -z) (ldHi kd ld))] ∧ Below (w.heap.size + 1) (w.alloc (.cells #[.int .i64 0,.int .i64 0] 23)) wr)
  case first =>
   refine AnyG.start (fun w' : World => Below wc.heap.size wc w') (fun i => i != 15) (by kernel_rfl) ?_
   have hS : (fun w' : World => Below wc.heap.size wc w') (World.drew _):=(Below.refl _ _).drew
   refine AnyG.take (i:=0) (v:=?_) rfl (by kernel_rfl) (fun _ _ _ h => h) rfl ?_ hS ?_
   rotate_left
   ·(intro w' hSw; (try dsimp only at hSw); have t0:=cellC hSw t0; have t1:=cellC hSw t1; go_simp; try with_reducible rfl)
   try simp only [Act.put,Sp4,Sp5,Sp6]
   refine AnyG.take (i:=1) (v:=?_) rfl (by kernel_rfl) (fun _ _ _ h => h) rfl ?_ hS ?_
   rotate_left
   ·(intro w' _; go_simp; try with_reducible rfl)
   try simp only [Act.put,Sp4,Sp5,Sp6]
   refine AnyG.take (i:=2) (v:=?_) rfl (by kernel_rfl) (fun _ _ _ h => h) rfl ?_ hS ?_
   rotate_left
   ·(intro w' _; go_simp; try with_reducible rfl)
   try simp only [Act.put,Sp4,Sp5,Sp6]
   refine AnyG.take (i:=3) (v:=?_) rfl (by kernel_rfl) (fun _ _ _ h => h) rfl ?_ hS ?_
   rotate_left
   ·(intro w' _; go_simp; try with_reducible rfl)
   try simp only [Act.put,Sp4,Sp5,Sp6]
   refine AnyG.take (i:=4) (v:=?_) rfl (by kernel_rfl) (fun _ _ _ h => h) rfl ?_ hS ?_
   rotate_left
   ·(intro w' _; go_simp; try with_reducible rfl)
   try simp only [Act.put,Sp4,Sp5,Sp6]
   refine AnyG.take (i:=5) (v:=?_) rfl (by kernel_rfl) (fun _ _ _ h => h) rfl ?_ hS ?_
   rotate_left
   ·(intro w' _; go_simp; try with_reducible rfl)
   try simp only [Act.put,Sp4,Sp5,Sp6]
   refine AnyG.take (i:=7) (v:=?_) rfl (by kernel_rfl) (fun _ _ _ h => h) rfl ?_ hS ?_
   rotate_left
   ·(intro w' _; go_simp; try with_reducible rfl)
   try simp only [Act.put,Sp4,Sp5,Sp6]
   refine AnyG.take (i:=8) (v:=?_) rfl (by kernel_rfl) (fun _ _ _ h => h) rfl ?_ hS ?_
   rotate_left
   ·(intro w' hSw; (try dsimp only at hSw); have a3:=cellC hSw a3; go_simp; try with_reducible rfl)
   try simp only [Act.put,Sp4,Sp5,Sp6]
   refine AnyG.take (i:=9) (v:=?_) rfl (by kernel_rfl) (fun _ _ _ h => h) rfl ?_ hS ?_
   rotate_left
   ·(intro w' _; go_simp; try with_reducible rfl)
   try simp only [Act.put,Sp4,Sp5,Sp6]
   refine AnyG.take (i:=10) (v:=?_) rfl (by kernel_rfl) (fun _ _ _ h => h) rfl ?_ hS ?_
   rotate_left
   ·(intro w' _; go_simp; try with_reducible rfl)
   try simp only [Act.put,Sp4,Sp5,Sp6]
   refine AnyG.take (i:=11) (v:=?_) rfl (by kernel_rfl) (fun _ _ _ h => h) rfl ?_ hS ?_
   rotate_left
   ·(intro w' hSw; (try dsimp only at hSw); have q0:=cellC hSw q0; have q1:=cellC hSw q1; have q2:=cellC hSw q2; have q3:=cellC hSw q3; have q4:=cellC hSw q4; go_simp; try with_reducible rfl)
   try simp only [Act.put,Sp4,Sp5,Sp6]
   refine RegRel.AnyG.rel [0,1,2,3,4,5,7,8,9,10,11] [15] [[],[],[],[],[],[],[],[],[],[],[],[],[6],[6,12],[],[6,12,13,14]] [(23,6),(29,12),(30,13),(8,14)] [(6,fun vs _ => vs 6 = .agg #[.int .i64 (sh - st / 2 + -z),.int .i64 (sh - st / 2 + st - 1 + -z)]),(12,fun vs _ => vs 12 = .agg #[.int .i64 (ldLo kd ld),.int .i64 (ldHi kd ld)]),
    (13,fun vs _ => vs 13 = .agg #[.int .i64 (max (sh - st / 2 + -z) (ldLo kd ld)),.int .i64 (min (sh - st / 2 + st - 1 + -z) (ldHi kd ld))]),(14,fun vs w1 => ∃ g,vs 14 = .pointer (some ⟨g,0,none⟩) ∧ wc.heap.size ≤ g ∧ Bx w1 g 23 #[.int .i64 0,.int .i64 0])]
    (by kernel_rfl) (by kernel_rfl) (by kernel_rfl) (by decide) (by decide) (fun _ h => Below.trans ((Below.refl wc.heap.size wc).drew) h) ?hst ?hcg ?hstep ?hfin
   case hst => exact ⟨fun _ _ _ h _ => h,fun _ _ _ h _ => h,fun _ _ _ h _ => h,fun _ _ _ ⟨g,h1,h2,h3⟩ hb => ⟨g,h1,h2,h3.call hb⟩,trivial⟩
   case hcg => exact ⟨fun _ _ _ he h => (he 6 (by simp)).trans h,fun _ _ _ he h => (he 12 (by simp)).trans h,fun _ _ _ he h => (he 13 (by simp)).trans h,fun _ _ _ he ⟨g,h1,h2⟩ => ⟨g,(he 14 (by simp)).trans h1,h2⟩,trivial⟩
   case hstep =>
    refine ⟨?_,?_,?_,?_,trivial⟩
    ·rintro vs w1 - hb
     refine ⟨_,_,rfl,rfl,?_⟩
     clear hS
     simp only [RegRel.fillT,List.foldl_cons,List.foldl_nil,Sp4,Sp5,Sp6]
     go_simp
     refine (plus_any _ _ _ _ _ bb1 bb2 bb3 bb4 bb5 bb6 bb5 bb6).mono ?_
     rintro r w2 ⟨rfl,hb2⟩
     first | exact ⟨rfl,hb2,rfl⟩ | exact ⟨rfl,hb2⟩ | exact hb2
    ·rintro vs w1 - hb
     refine ⟨_,_,rfl,rfl,?_⟩
     clear hS
     simp only [RegRel.fillT,List.foldl_cons,List.foldl_nil,Sp4,Sp5,Sp6]
     go_simp
     refine (loads_any kd sh ld c0 c1 _).mono ?_
     rintro r w2 ⟨rfl,hb2⟩
     first | exact ⟨rfl,hb2,rfl⟩ | exact ⟨rfl,hb2⟩ | exact hb2
    ·rintro vs w1 ⟨h6,h12,-⟩ hb
     refine ⟨_,_,rfl,rfl,?_⟩
     clear hS
     dsimp only at h6 h12
     simp only [RegRel.fillT,List.foldl_cons,List.foldl_nil,Sp4,Sp5,Sp6]
     simp only [h6,h12]
     clear h6 h12
     go_simp
     refine (meet_any _ _ _ _ _).mono ?_
     rintro r w2 ⟨rfl,hb2⟩
     first | exact ⟨rfl,hb2,rfl⟩ | exact ⟨rfl,hb2⟩ | exact hb2
    ·rintro vs w1 - hb
     refine ⟨_,_,rfl,rfl,?_⟩
     clear hS
     simp only [RegRel.fillT,List.foldl_cons,List.foldl_nil,Sp4,Sp5,Sp6]
     go_simp
     first | exact ⟨⟨_,rfl,hb.size,Bx.new _ _ _⟩,(Below.refl _ _).alloc (Nat.le_refl _) _,rfl⟩ | exact ⟨⟨_,rfl,hb.size,Bx.new _ _ _⟩,(Below.refl _ _).alloc (Nat.le_refl _) _⟩ | trace_state
   case hfin =>
    rintro vs w1 ⟨h6,h12,h13,⟨g,h14,hg,hx⟩,-⟩ hb
    clear hS
    dsimp only at h6 h12 h13 h14
    simp only [List.filter_cons,List.contains_cons,List.contains_nil,Nat.reduceBEq,Bool.or_false,Bool.not_false,if_true,List.filter_nil]
    simp only [RegRel.fillT,List.foldl_cons,List.foldl_nil,Sp4,Sp5,Sp6]
    simp only [h6,h12,h13,h14]
    clear h6 h12 h13 h14
    obtain ⟨x0,x1,xf,xz⟩:=hx.two
    refine RegRel.wpOps_go rfl rfl ?_
    go_simp
    refine RegRel.wpOps_end ?_
    go_wp2_with fail
    go_meet
    refine ⟨g,rfl,(hx.set_ 0 _).set_ 1 _,?_⟩
    have hz7:=hB7.size
    have hzz : w.heap.size + 1 ≤ wc.heap.size:=by simpa using hz7
    have hgg : wc.heap.size ≤ g:=hg
    exact ((hB7.drew.trans (hb.mono hzz)).setCell (p:=⟨g,0,none⟩) (by simp only; omega) _).setCell (p:=⟨g,1,none⟩) (by simp only; omega) _
  case rest =>
   obtain ⟨g8,rfl,k8,hB8⟩:=hcut
   clear k1 k2 k6 k7 q0 q1 q2 q3 q4 a0 a1 a2 a3 af az t0 t1 tf tz hB7
   have k2':=(K2.out.alloc (.cells #[.int .i64 0,.int .i64 0] 23)).below hB8 (by have:=K2.out.lt; omega)
   have k6':=(Bx.new w 23 #[.int .i64 0,.int .i64 0]).below hB8 (by omega)
   have hown':=ownsMap_below (HOWN.out.alloc (.cells #[.int .i64 0,.int .i64 0] 23)) hB8 (by have:=HOWN.out.lt; omega)
   obtain ⟨e0,ef,ez⟩:=k2'.one
   obtain ⟨r0,r1,rf,rz⟩:=k6'.two
   have hld : ldRng st ⟨kd,sh,ld,c0,c1⟩ z = (max (sh - st / 2 + -z) (ldLo kd ld),min (sh - st / 2 + st - 1 + -z) (ldHi kd ld)):=rfl
   have hlo1 : -1000000 ≤ max (sh - st / 2 + -z) (ldLo kd ld) ∧ max (sh - st / 2 + -z) (ldLo kd ld) ≤ 1000000:=by omega
   have hhi1 : -1000000 ≤ min (sh - st / 2 + st - 1 + -z) (ldHi kd ld) ∧ min (sh - st / 2 + st - 1 + -z) (ldHi kd ld) ≤ 1000000:=by omega
   generalize max (sh - st / 2 + -z) (ldLo kd ld) = lo at *
   generalize min (sh - st / 2 + st - 1 + -z) (ldHi kd ld) = hi at *
   obtain ⟨x0,x1,xf,xz⟩:=k8.two
   have HLD:=Lib.hid hld
   clear hld
   obtain ⟨o1,o2⟩:=hlo1
   obtain ⟨o3,o4⟩:=hhi1
   have hw1 : IntKind.i64.wrap (-lo) = -lo:=IntWalk.i64_in _ (by omega)
   have hw2 : IntKind.i64.wrap (-hi) = -hi:=IntWalk.i64_in _ (by omega)
   have hkey : keyOf Try.prog 3 (.int .i64 (k : Int)) = some (.int .i64 (k : Int)):=keyOf_int_mk Try.underlying3 (WalkArith.wf_i64 (by omega))
   have HKEY:=Lib.hid hkey
   clear hkey
   go_wp2_with (at_lookup; refine wpList_lookup_own_int _ rfl _ _ 113 rfl 3 3 .i64 keyed3 Try.underlying113 Try.underlying3 (zero3 _) m 8 _ rfl hown' _ (.int .i64 (k : Int)) rfl HKEY.out ?_; intro c hat hwc; have HC : Hid (c = if B.contains (k : Int) then -1 else if F.contains (k : Int) then 1 else 0):=(by rw [wmap_at] at hat; injection hat with hat; injection hat with _ hat; exact hat.symm); clear hat)
   all_goals
    have hdone : ∀ x y : Int,Below w.heap.size w ((wc.setCell ⟨w.heap.size,0,none⟩ (.int .i64 x)).setCell ⟨w.heap.size,1,none⟩ (.int .i64 y)):=fun x y =>
     ((((Below.refl _ _).alloc (Nat.le_refl _) _).trans (hB8.mono (by omega))).setCell (p:=⟨w.heap.size,0,none⟩) (Nat.le_refl _) _).setCell (p:=⟨w.heap.size,1,none⟩) (Nat.le_refl _) _
    by_cases hBc : B.contains (k : Int) = true
    ·first
     | (exfalso; have h9:=HC.out; rw [if_pos hBc] at h9; subst h9; simp at *; done)
     | (rw [wgt_B hBc,HLD.out]; exact bodyPost_ret (v:=.agg #[.int .i64 (-hi),.int .i64 (-lo)]) (by simp [results,Try.results97,go_sem,r0,r1,World.cell?_setCell_same',World.cell?_setCell_other]) rfl ⟨rfl,hdone _ _⟩)
    ·by_cases hFc : F.contains (k : Int) = true
     ·first
      | (exfalso; have h9:=HC.out; rw [if_neg hBc,if_pos hFc] at h9; subst h9; simp at *; done)
      | (rw [wgt_F hBc hFc,HLD.out]; exact bodyPost_ret (v:=.agg #[.int .i64 lo,.int .i64 hi]) (by simp [results,Try.results97,go_sem,r0,r1,World.cell?_setCell_same',World.cell?_setCell_other]) rfl ⟨rfl,hdone _ _⟩)
     ·first
      | (exfalso; have h9:=HC.out; rw [if_neg hBc,if_neg hFc] at h9; subst h9; simp at *; done)
      | (rw [wgt_0 hBc hFc]; exact bodyPost_ret (v:=.agg #[.int .i64 0,.int .i64 0]) (by simp [results,Try.results97,go_sem,r0,r1,World.cell?_setCell_same',World.cell?_setCell_other]) rfl ⟨rfl,hdone _ _⟩)
end Go.Proofs.Ytgbogdckmfencaa
