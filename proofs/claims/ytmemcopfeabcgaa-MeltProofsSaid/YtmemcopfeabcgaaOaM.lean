/- The law of Rel in the form in which it is used: the relations as a list, each step as an operation's own walk. -/
import Derived.Test.YtmemcopfeabcgaaRel
import Derived.Deep.CutBlock
import Derived.Test.YtmemcopfeabcgaaOb
set_option linter.unusedSimpArgs false
set_option linter.unusedVariables false
namespace Go.Proofs.Ytmemcopfeabcgaa.RegRel
open Go Go.RowKit
abbrev RelL:=List (Nat × ((Nat → Value) → World → Prop))
def AllL {α : Type} : List α → (α → Prop) → Prop
 | [],_ => True
 | p :: r,φ => φ p ∧ AllL r φ
theorem allL_iff {α : Type} {L : List α} {φ : α → Prop} : AllL L φ ↔ ∀ p ∈ L,φ p:=by
 induction L with
 | nil => simp [AllL]
 | cons p r ih => simp [AllL,ih]
section
variable {P : Program} {ops : Array Oper} {Q : Exit → Act → World → Prop} {S : World → Prop} {G : Nat → Bool}
def NoExit : Exit → Act → World → Prop:=fun _ _ _ => False
/-- One operation's step. -/
def StepL (P : Program) (ops : Array Oper) (tab : List (Nat × Nat)) (a : Act) (vs : Nat → Value) (w1 : World) (p : Nat × ((Nat → Value) → World → Prop)) : Prop :=
 ∃ o d,ops[p.1]? = some o ∧ o.dst = some d ∧
  o.wp P { tmps:=fillT tab vs a.tmps,defers:=a.defers } w1 (fun a2 w2 => p.2 (upd vs p.1 (a2.tmps.getD d undef)) w2 ∧ Below w1.heap.size w1 w2 ∧ a2.defers = a.defers) NoExit
theorem AnyG.rel {w : World} {a : Act} {listed : Array Bool} {fuel : Nat} (D Z : List Nat) (pre : List (List Nat)) (tab : List (Nat × Nat)) (L : RelL)
  (hck : regOk ops pre tab D Z a.tmps.size = true)
  (hck2 : ((List.range ops.size).all (fun i => listed.getD i false == D.contains i && (D.contains i || Z.contains i || (L.lookup i).isSome)) && listed.size == ops.size && decide (undone listed ≤ fuel) && (D ++ Z).all (fun z => decide (z < ops.size) && (!Z.contains z || (!G z && !D.contains z)))) = true)
  (hck3' : ((L.map (·.1)).all (fun i => !D.contains i && !Z.contains i && decide (i < ops.size)) && decide ((L.map (·.1)).Pairwise (· ≠ ·))) = true)
  (hch : Z.Pairwise (fun x y => x ∈ pre.getD y [] ∧ x ≠ y)) (hnd : tab.Pairwise (fun x y => x.1 ≠ y.1)) (hS : ∀ w',Below w.heap.size w w' → S w')
  (hst : AllL L fun p => ∀ vs w1 w2,p.2 vs w1 → Below w1.heap.size w1 w2 → p.2 vs w2)
  (hcg : AllL L fun p => ∀ vs vs' w1,(∀ k,k = p.1 ∨ k ∈ pre.getD p.1 [] → vs' k = vs k) → p.2 vs w1 → p.2 vs' w1)
  (hstep : AllL L fun p => ∀ vs w1,AllL (L.filter fun q => (pre.getD p.1 []).contains q.1) (fun q => q.2 vs w1) → Below w.heap.size w w1 → StepL P ops tab a vs w1 p)
  (hfin : ∀ vs w1,AllL L (fun p => p.2 vs w1) → Below w.heap.size w w1 →
   wpOps P ops Q Z { tmps:=fillT (tab.filter fun p => !Z.contains p.2) vs a.tmps,defers:=a.defers } w1) : AnyG P .any ops Q S G fuel listed a w:=by
 have hck3 : (L.map (·.1)).all (fun i => !D.contains i && !Z.contains i && decide (i < ops.size)) = true ∧ (L.map (·.1)).Pairwise (· ≠ ·):=by
  rw [Bool.and_eq_true] at hck3'
  exact ⟨hck3'.1,of_decide_eq_true hck3'.2⟩
 have hlk : ∀ (M : RelL),(M.map (·.1)).Pairwise (· ≠ ·) → ∀ p ∈ M,M.lookup p.1 = some p.2:=by
  intro M
  induction M with
  | nil => intro _ p hp; cases hp
  | cons q r ih =>
   intro hp p hm
   obtain ⟨x,y⟩:=q
   rw [List.map_cons,List.pairwise_cons] at hp
   rcases List.mem_cons.1 hm with rfl | hm
   ·simp
   ·have : (p.1 == x) = false:=by
     have:=hp.1 p.1 (List.mem_map_of_mem hm)
     simpa using fun e => this e.symm
    rw [List.lookup_cons,this]
    exact ih hp.2 p hm
 refine any_rel D Z pre tab L hck hck2 hch hnd hS (allL_iff.1 hst) (allL_iff.1 hcg) (fun p hp o ho vs w1 hq hb => ?_) (fun vs w1 hR hb => hfin vs w1 (allL_iff.2 fun p hp => ?_) hb)
 ·obtain ⟨o',d,ho',hd,hw⟩:=allL_iff.1 hstep p hp vs w1 (allL_iff.2 fun q hq' => by
   obtain ⟨hm,hc⟩:=List.mem_filter.1 hq'
   exact hq q hm (by simpa using hc) (hlk L hck3.2 q hm)) hb
  rw [ho] at ho'
  obtain rfl : o = o':=Option.some.inj ho'
  have hpD : p.1 ∉ D:=by
   have:=List.all_eq_true.1 hck3.1 p.1 (List.mem_map_of_mem hp)
   simp at this; exact this.1.1
  have F:=fit_of hck ho hpD
  have hds : d < a.tmps.size:=(F.dst d hd).1
  have hev : execOp (Act.eval { tmps:=fillT tab vs a.tmps,defers:=a.defers }) o = execOp (evT tab a vs) o:=by
   refine execOp_congr o F.sel fun x _ => ?_
   cases x with
   | tmp t =>
    simp only [Act.eval,evT]
    rcases Nat.lt_or_ge t a.tmps.size with ht | ht
    ·exact fillT_get vs t tab a.tmps hnd ht
    ·have h1 : (fillT tab vs a.tmps).getD t undef = undef:=by
      rw [Array.getD_eq_getD_getElem?,Array.getElem?_eq_none (by rw [fillT_size]; exact ht)]; rfl
     have h2 : a.tmps.getD t undef = undef:=by
      rw [Array.getD_eq_getD_getElem?,Array.getElem?_eq_none ht]; rfl
     rw [h1]
     cases hl : tab.lookup t with
     | none => exact h2.symm
     | some k =>
      exfalso
      have h3:=tab_of hck hl
      cases hok : ops[k]? with
      | none => rw [hok] at h3; simp at h3
      | some ok =>
       rw [hok] at h3
       have:=((fit_of hck hok (tab_nd hck hl)).dst t (by simpa using h3)).1
       exact absurd this (Nat.not_lt.2 ht)
   | const v => rfl
   | global g => rfl
   | func f => rfl
  unfold Oper.wp at hw
  rw [hev] at hw
  unfold Does
  have hput : ∀ v,(Act.put { tmps:=fillT tab vs a.tmps,defers:=a.defers } o.dst v).tmps.getD d undef = v:=by
   intro v
   rw [hd]
   simp [Act.put,fillT_size,hds]
  generalize (execOp (evT tab a vs) o).run P w1 = r at hw ⊢
  cases r with
  | ok n w' =>
   cases n <;> simp only [Oper.upon] at hw ⊢
   case value v => rw [hput] at hw; exact ⟨hw.1,hw.2.1⟩
   case skip => rw [hput] at hw; exact ⟨hw.1,hw.2.1⟩
   case enter f args =>
    refine Calls.mono hw fun e w'' he => ?_
    cases e with
    | returned v => simp only at he; rw [hput] at he; exact ⟨v,rfl,he.1,he.2.1⟩
    | panicked c => exact he.elim
    | outgrown => obtain ⟨_,_,h⟩:=he; exact h.elim
   case row row args => exact Rows.mono hw fun v w'' he => by rw [hput] at he; exact ⟨he.1,he.2.1⟩
   case defer d' =>
    have:=congrArg List.length hw.2.2
    rw [hd] at this
    simp [Act.put] at this
  | halt x w' =>
   cases x <;> simp only [Oper.upon] at hw
   all_goals first | exact hw.elim
 ·have:=List.all_eq_true.1 hck3.1 p.1 (List.mem_map_of_mem hp)
  simp at this
  exact hR p hp this.1.1 this.1.2 this.2 (hlk L hck3.2 p hp)
end
end Go.Proofs.Ytmemcopfeabcgaa.RegRel

/-! The law of Rel for regions with several allocs: the blocks of those listed in A are different. -/
namespace Go.Proofs.Ytmemcopfeabcgaa.RegRel
open Go Go.RowKit
section
variable {P : Program} {ops : Array Oper} {Q : Exit → Act → World → Prop} {S : World → Prop} {G : Nat → Bool}
section main
variable (A : List Nat) (pre : List (List Nat)) (tab : List (Nat × Nat)) (D Z : List Nat) (a0 : Act) (w0 : World) (R : Nat → (Nat → Value) → World → Prop)

structure Inv2 (ops : Array Oper) (listed : Array Bool) (a : Act) (w : World) (vs : Nat → Value) : Prop where
 size : listed.size = ops.size
 done : ∀ d ∈ D,listed.getD d false = true
 z : ∀ i ∈ Z,listed.getD i true = false
 down : ∀ i k,i ∉ D → listed.getD i false = true → k ∈ pre.getD i [] → listed.getD k false = true
 defers : a.defers = a0.defers
 tsize : a.tmps.size = a0.tmps.size
 below : Below w0.heap.size w0 w
 rel : ∀ i,i ∉ D → listed.getD i false = true → R i vs w
 val : ∀ t,a.tmps.getD t undef = match tab.lookup t with | some k => if listed.getD k false = true then vs k else a0.tmps.getD t undef | none => a0.tmps.getD t undef
 fresh : ∀ i ∈ A,listed.getD i false = true → ∃ g,vs i = .pointer (some ⟨g,0,none⟩) ∧ g < w.heap.size
 dist : ∀ i ∈ A,∀ j ∈ A,i ≠ j → listed.getD i false = true → listed.getD j false = true → vs i ≠ vs j

variable {A pre tab D Z a0 w0 R}

theorem Inv2.step {listed : Array Bool} {a : Act} {w : World} {vs : Nat → Value} {i : Nat}
  (hck : regOk ops pre tab D Z a0.tmps.size = true)
  (hst : ∀ i vs w w',R i vs w → Below w.heap.size w w' → R i vs w')
  (hcg : ∀ i vs vs' w,(∀ k,k = i ∨ k ∈ pre.getD i [] → vs' k = vs k) → R i vs w → R i vs' w)
  (hstep : ∀ i o vs w,ops[i]? = some o → i ∉ D → i ∉ Z → (∀ k ∈ pre.getD i [],k ∉ D → R k vs w) → Below w0.heap.size w0 w →
   Does P o (evT tab a0 vs) w fun v w' => R i (upd vs i v) w' ∧ Below w.heap.size w w' ∧ (i ∈ A → v = .pointer (some ⟨w.heap.size,0,none⟩) ∧ w.heap.size < w'.heap.size))
  (hI : Inv2 A pre tab D Z a0 w0 R ops listed a w vs) (hi : i ∈ Region.ready .any ops listed) (hz : i ∉ Z) :
  wpOp P ops Q i (fun a' w' => ∃ vs',Inv2 A pre tab D Z a0 w0 R ops (listed.setIfInBounds i true) a' w' vs') a w:=by
 obtain ⟨h0,o,ho,hall⟩:=mem_ready.1 hi
 have hid : i ∉ D:=fun h => by have:=hI.done i h; rw [getD_ff h0] at this; cases this
 have F:=fit_of hck ho hid
 have hlt : i < ops.size:=(Array.getElem?_eq_some_iff.1 ho).1
 have hpre : ∀ k ∈ pre.getD i [],listed.getD k false = true:=by
  intro k hk
  obtain ⟨e,he,hb,hk'⟩:=F.prs k hk
  have hl:=hall e he hb
  rcases hk' with rfl | hk'
  ·exact hl
  ·exact hI.down _ _ hk'.1 hl hk'.2
 have hev : execOp a.eval o = execOp (evT tab a0 vs) o:=by
  refine execOp_congr o F.sel fun x hx => ?_
  cases x with
  | tmp t =>
   have hv:=hI.val t
   simp only [Act.eval,evT]
   rw [hv]
   cases hl : tab.lookup t with
   | none => rfl
   | some k => simp only [hpre k (F.opd t hx k hl),if_true]
  | const v => rfl
  | global g => rfl
  | func f => rfl
 have key : ∀ v w',R i (upd vs i v) w' ∧ Below w.heap.size w w' ∧ (i ∈ A → v = .pointer (some ⟨w.heap.size,0,none⟩) ∧ w.heap.size < w'.heap.size) → ∃ vs',Inv2 A pre tab D Z a0 w0 R ops (listed.setIfInBounds i true) (a.put o.dst v) w' vs':=by
  rintro v w' ⟨hR,hB,hA⟩
  have hne : ∀ k,listed.getD k false = true → k ≠ i:=fun k hk e => by
   subst e; rw [getD_ff h0] at hk; cases hk
  refine ⟨upd vs i v,?_,?_,?_,?_,?_,?_,?_,?_,?_,?_,?_⟩
  ·simp [hI.size]
  ·intro d hd; exact getD_set_true (hI.done d hd)
  ·intro j hj
   rw [getD_set_ne true (fun e : i = j => hz (e ▸ hj))]; exact hI.z j hj
  ·intro j k hjd hj hk
   rcases Nat.decEq j i with hji | hji
   ·rw [getD_set_ne false (Ne.symm hji)] at hj
    exact getD_set_true (hI.down j k hjd hj hk)
   ·subst hji; exact getD_set_true (hpre k hk)
  ·cases o.dst <;> exact hI.defers
  ·cases o.dst <;> simp [Act.put,hI.tsize]
  ·exact hI.below.trans (hB.mono hI.below.size)
  ·intro j hjd hj
   rcases Nat.decEq j i with hji | hji
   ·rw [getD_set_ne false (Ne.symm hji)] at hj
    refine hcg j vs _ w' (fun k hk => ?_) (hst j vs w w' (hI.rel j hjd hj) hB)
    have hkl : listed.getD k false = true:=by
     rcases hk with rfl | hk
     ·exact hj
     ·exact hI.down j k hjd hj hk
    simp [upd,hne k hkl]
   ·subst hji; exact hR
  ·intro t
   have hv:=hI.val t
   cases hd : o.dst with
   | none =>
    simp only [Act.put]
    rw [hv]
    cases hl : tab.lookup t with
    | none => rfl
    | some k =>
     have hki : k ≠ i:=fun e => by
      have:=tab_of hck hl
      rw [e,ho] at this
      simp [hd] at this
     simp only [getD_set_ne false (Ne.symm hki),upd,hki,if_false]
   | some d =>
    obtain ⟨hds,hdl⟩:=F.dst d hd
    rcases Nat.decEq t d with htd | htd
    ·simp only [Act.put]
     have : (a.tmps.setIfInBounds d v).getD t undef = a.tmps.getD t undef:=by simp [Array.getD_eq_getD_getElem?,Array.getElem?_setIfInBounds_ne (Ne.symm htd)]
     rw [this,hv]
     cases hl : tab.lookup t with
     | none => rfl
     | some k =>
      have hki : k ≠ i:=fun e => by
       have:=tab_of hck hl
       rw [e,ho] at this
       simp [hd] at this
       exact htd this.symm
      simp only [getD_set_ne false (Ne.symm hki),upd,hki,if_false]
    ·subst htd
     have h2 : (listed.setIfInBounds i true).getD i false = true:=getD_set_self (by rw [hI.size]; exact hlt)
     simp only [Act.put,hdl,h2,if_true,upd]
     have : t < a.tmps.size:=by rw [hI.tsize]; exact hds
     simp [this]
  ·intro j hj hl
   rcases Nat.decEq j i with hji | hji
   ·rw [getD_set_ne false (Ne.symm hji)] at hl
    obtain ⟨g,h1,h2⟩:=hI.fresh j hj hl
    exact ⟨g,by simp [upd,hji,h1],by have:=hB.size; omega⟩
   ·subst hji
    exact ⟨_,by simp only [upd,if_true]; exact (hA hj).1,(hA hj).2⟩
  ·intro j hj k hk hjk hlj hlk
   rcases Nat.decEq j i with hji | hji
   ·rw [getD_set_ne false (Ne.symm hji)] at hlj
    rcases Nat.decEq k i with hki | hki
    ·rw [getD_set_ne false (Ne.symm hki)] at hlk
     simp only [upd,hji,hki,if_false]
     exact hI.dist j hj k hk hjk hlj hlk
    ·subst hki
     obtain ⟨g,h1,h2⟩:=hI.fresh j hj hlj
     simp only [upd,hji,if_false,if_true]
     rw [h1,(hA hk).1]
     intro e
     injection e with e; injection e with e; injection e with e
     omega
   ·subst hji
    have hki : k ≠ j:=fun e => hjk e.symm
    rw [getD_set_ne false (Ne.symm hki)] at hlk
    obtain ⟨g,h1,h2⟩:=hI.fresh k hk hlk
    simp only [upd,hki,if_false,if_true]
    rw [h1,(hA hj).1]
    intro e
    injection e with e; injection e with e; injection e with e
    omega
 unfold wpOp
 rw [ho]
 show if Region.wanted o (yielded ops a.tmps) = true then _ else _
 rw [if_pos (by simp [Region.wanted,F.guard])]
 refine .inl ?_
 have hs:=hstep i o vs w ho hid hz (fun k hk hkd => hI.rel k hkd (hpre k hk)) hI.below
 unfold Oper.wp
 rw [hev]
 unfold Does at hs
 generalize (execOp (evT tab a0 vs) o).run P w = r at hs ⊢
 cases r with
 | ok n w' =>
  cases n <;> simp only [Oper.upon] at hs ⊢
  case value v => exact key v w' hs
  case skip => exact key undef w' hs
  case enter f args =>
   refine Calls.mono hs fun e w'' he => ?_
   obtain ⟨v,rfl,hk⟩:=he
   exact key v w'' hk
  case row row args => exact Rows.mono hs fun v w'' he => key v w'' he
  all_goals exact hs.elim
 | halt x w' => exact hs.elim

end main
end
end Go.Proofs.Ytmemcopfeabcgaa.RegRel

/-! The law of Rel with a relation of worlds of its own for each operation: what an operation may turn, and what the others' relations bear. -/
namespace Go.Proofs.Ytmemcopfeabcgaa.RegRel
open Go Go.RowKit
section
variable {P : Program} {ops : Array Oper} {Q : Exit → Act → World → Prop} {S : World → Prop} {G : Nat → Bool}
section main3
variable (pre : List (List Nat)) (tab : List (Nat × Nat)) (D Z : List Nat) (a0 : Act) (R : Nat → (Nat → Value) → World → Prop) (T : World → Prop)
structure Inv3 (ops : Array Oper) (listed : Array Bool) (a : Act) (w : World) (vs : Nat → Value) : Prop where
 size : listed.size = ops.size
 done : ∀ d ∈ D,listed.getD d false = true
 z : ∀ i ∈ Z,listed.getD i true = false
 down : ∀ i k,i ∉ D → listed.getD i false = true → k ∈ pre.getD i [] → listed.getD k false = true
 defers : a.defers = a0.defers
 tsize : a.tmps.size = a0.tmps.size
 below : T w
 rel : ∀ i,i ∉ D → listed.getD i false = true → R i vs w
 val : ∀ t,a.tmps.getD t undef = match tab.lookup t with | some k => if listed.getD k false = true then vs k else a0.tmps.getD t undef | none => a0.tmps.getD t undef

variable {pre tab D Z a0 R T} {K : Nat → World → World → Prop}
theorem Inv3.step {listed : Array Bool} {a : Act} {w : World} {vs : Nat → Value} {i : Nat}
  (hck : regOk ops pre tab D Z a0.tmps.size = true)
  (hT : ∀ i w w',T w → K i w w' → T w')
  (hst : ∀ i j vs w w',j ∉ D → j ∉ Z → j ∉ pre.getD i [] → j ≠ i → R i vs w → T w → K j w w' → R i vs w')
  (hcg : ∀ i vs vs' w,(∀ k,k = i ∨ k ∈ pre.getD i [] → vs' k = vs k) → R i vs w → R i vs' w)
  (hstep : ∀ i o vs w,ops[i]? = some o → i ∉ D → i ∉ Z → (∀ k ∈ pre.getD i [],k ∉ D → R k vs w) → T w →
   Does P o (evT tab a0 vs) w fun v w' => R i (upd vs i v) w' ∧ K i w w')
  (hI : Inv3 pre tab D Z a0 R T ops listed a w vs) (hi : i ∈ Region.ready .any ops listed) (hz : i ∉ Z) :
  wpOp P ops Q i (fun a' w' => ∃ vs',Inv3 pre tab D Z a0 R T ops (listed.setIfInBounds i true) a' w' vs') a w:=by
 obtain ⟨h0,o,ho,hall⟩:=mem_ready.1 hi
 have hid : i ∉ D:=fun h => by have:=hI.done i h; rw [getD_ff h0] at this; cases this
 have F:=fit_of hck ho hid
 have hlt : i < ops.size:=(Array.getElem?_eq_some_iff.1 ho).1
 have hpre : ∀ k ∈ pre.getD i [],listed.getD k false = true:=by
  intro k hk
  obtain ⟨e,he,hb,hk'⟩:=F.prs k hk
  have hl:=hall e he hb
  rcases hk' with rfl | hk'
  ·exact hl
  ·exact hI.down _ _ hk'.1 hl hk'.2
 have hev : execOp a.eval o = execOp (evT tab a0 vs) o:=by
  refine execOp_congr o F.sel fun x hx => ?_
  cases x with
  | tmp t =>
   have hv:=hI.val t
   simp only [Act.eval,evT]
   rw [hv]
   cases hl : tab.lookup t with
   | none => rfl
   | some k => simp only [hpre k (F.opd t hx k hl),if_true]
  | const v => rfl
  | global g => rfl
  | func f => rfl
 have key : ∀ v w',R i (upd vs i v) w' ∧ K i w w' → ∃ vs',Inv3 pre tab D Z a0 R T ops (listed.setIfInBounds i true) (a.put o.dst v) w' vs':=by
  rintro v w' ⟨hR,hB⟩
  have hne : ∀ k,listed.getD k false = true → k ≠ i:=fun k hk e => by
   subst e; rw [getD_ff h0] at hk; cases hk
  refine ⟨upd vs i v,?_,?_,?_,?_,?_,?_,?_,?_,?_⟩
  ·simp [hI.size]
  ·intro d hd; exact getD_set_true (hI.done d hd)
  ·intro j hj
   rw [getD_set_ne true (fun e : i = j => hz (e ▸ hj))]; exact hI.z j hj
  ·intro j k hjd hj hk
   rcases Nat.decEq j i with hji | hji
   ·rw [getD_set_ne false (Ne.symm hji)] at hj
    exact getD_set_true (hI.down j k hjd hj hk)
   ·subst hji; exact getD_set_true (hpre k hk)
  ·cases o.dst <;> exact hI.defers
  ·cases o.dst <;> simp [Act.put,hI.tsize]
  ·exact hT i w w' hI.below hB
  ·intro j hjd hj
   rcases Nat.decEq j i with hji | hji
   ·rw [getD_set_ne false (Ne.symm hji)] at hj
    refine hcg j vs _ w' (fun k hk => ?_) (hst j i vs w w' hid hz (fun hm => by have:=hI.down j i hjd hj hm; rw [getD_ff h0] at this; cases this) (Ne.symm hji) (hI.rel j hjd hj) hI.below hB)
    have hkl : listed.getD k false = true:=by
     rcases hk with rfl | hk
     ·exact hj
     ·exact hI.down j k hjd hj hk
    simp [upd,hne k hkl]
   ·subst hji; exact hR
  ·intro t
   have hv:=hI.val t
   cases hd : o.dst with
   | none =>
    simp only [Act.put]
    rw [hv]
    cases hl : tab.lookup t with
    | none => rfl
    | some k =>
     have hki : k ≠ i:=fun e => by
      have:=tab_of hck hl
      rw [e,ho] at this
      simp [hd] at this
     simp only [getD_set_ne false (Ne.symm hki),upd,hki,if_false]
   | some d =>
    obtain ⟨hds,hdl⟩:=F.dst d hd
    rcases Nat.decEq t d with htd | htd
    ·simp only [Act.put]
     have : (a.tmps.setIfInBounds d v).getD t undef = a.tmps.getD t undef:=by simp [Array.getD_eq_getD_getElem?,Array.getElem?_setIfInBounds_ne (Ne.symm htd)]
     rw [this,hv]
     cases hl : tab.lookup t with
     | none => rfl
     | some k =>
      have hki : k ≠ i:=fun e => by
       have:=tab_of hck hl
       rw [e,ho] at this
       simp [hd] at this
       exact htd this.symm
      simp only [getD_set_ne false (Ne.symm hki),upd,hki,if_false]
    ·subst htd
     have h2 : (listed.setIfInBounds i true).getD i false = true:=getD_set_self (by rw [hI.size]; exact hlt)
     simp only [Act.put,hdl,h2,if_true,upd]
     have : t < a.tmps.size:=by rw [hI.tsize]; exact hds
     simp [this]
 unfold wpOp
 rw [ho]
 show if Region.wanted o (yielded ops a.tmps) = true then _ else _
 rw [if_pos (by simp [Region.wanted,F.guard])]
 refine .inl ?_
 have hs:=hstep i o vs w ho hid hz (fun k hk hkd => hI.rel k hkd (hpre k hk)) hI.below
 unfold Oper.wp
 rw [hev]
 unfold Does at hs
 generalize (execOp (evT tab a0 vs) o).run P w = r at hs ⊢
 cases r with
 | ok n w' =>
  cases n <;> simp only [Oper.upon] at hs ⊢
  case value v => exact key v w' hs
  case skip => exact key undef w' hs
  case enter f args =>
   refine Calls.mono hs fun e w'' he => ?_
   obtain ⟨v,rfl,hk⟩:=he
   exact key v w'' hk
  case row row args => exact Rows.mono hs fun v w'' he => key v w'' he
  all_goals exact hs.elim
 | halt x w' => exact hs.elim

end main3
end
end Go.Proofs.Ytmemcopfeabcgaa.RegRel

/-! Regions that draw their order: what is held need not be shown behind what waits for all that is read. -/
namespace Go.Proofs.Ytmemcopfeabcgaa
open Go Go.RowKit
section
section
variable {P : Program} {ops : Array Oper} {Q : Exit → Act → World → Prop} {md : Region.Mode} {S : World → Prop} {G : Nat → Bool}
/-- j waits for i, perhaps by others. -/
inductive Desc (md : Region.Mode) (ops : Array Oper) (i : Nat) : Nat → Prop
 | base {j : Nat} {o : Oper} (ho : ops[j]? = some o) (h : ∃ e ∈ o.after,Region.binds md e = true ∧ e.on = i) : Desc md ops i j
 | step {j k : Nat} {o : Oper} (ho : ops[j]? = some o) (h : ∃ e ∈ o.after,Region.binds md e = true ∧ e.on = k) (hk : Desc md ops i k) : Desc md ops i j
def descs (md : Region.Mode) (ops : Array Oper) (i : Nat) : List Nat :=
 (List.range ops.size).foldl (fun D j => if ((ops[j]?).map (·.after.any fun e => Region.binds md e && D.contains e.on)).getD false then j :: D else D) [i]
theorem descs_ok {i : Nat} : ∀ k ∈ descs md ops i,k = i ∨ Desc md ops i k:=by
 unfold descs
 have key : ∀ (l D : List Nat),(∀ k ∈ D,k = i ∨ Desc md ops i k) → ∀ k ∈ l.foldl (fun D j => if ((ops[j]?).map (·.after.any fun e => Region.binds md e && D.contains e.on)).getD false then j :: D else D) D,k = i ∨ Desc md ops i k:=by
  intro l
  induction l with
  | nil => intro D h k hk; exact h k hk
  | cons j l ih =>
   intro D h
   rw [List.foldl_cons]
   refine ih _ fun k hk => ?_
   split at hk
   ·rename_i hc
    rcases List.mem_cons.1 hk with rfl | hk
    ·cases ho : ops[k]? with
     | none => rw [ho] at hc; simp at hc
     | some o =>
      rw [ho] at hc
      simp only [Option.map_some,Option.getD_some] at hc
      obtain ⟨e,he,hb⟩:=Array.any_eq_true'.1 hc
      simp only [Bool.and_eq_true,List.contains_eq_mem,decide_eq_true_eq] at hb
      rcases h _ hb.2 with h0 | h0
      ·exact .inr (.base ho ⟨e,he,hb.1,h0⟩)
      ·exact .inr (.step ho ⟨e,he,hb.1,rfl⟩ h0)
    ·exact h k hk
   ·exact h k hk
 exact key _ _ (by simp)
/-- Whatever has come up, what it waits for has. -/
def Closed (md : Region.Mode) (ops : Array Oper) (listed : Array Bool) : Prop :=
 ∀ k,listed.getD k false = true → ∀ o,ops[k]? = some o → ∀ e ∈ o.after,Region.binds md e = true → listed.getD e.on false = true
def closedB (md : Region.Mode) (ops : Array Oper) (listed : Array Bool) : Bool :=
 (List.range ops.size).all fun k => !listed.getD k false || ((ops[k]?).map (·.after.all fun e => !Region.binds md e || listed.getD e.on false)).getD true
theorem closedB_ok {listed : Array Bool} (h : closedB md ops listed = true) : Closed md ops listed:=by
 intro k hk o ho e he hb
 have hlt : k < ops.size:=(Array.getElem?_eq_some_iff.1 ho).1
 have h1:=List.all_eq_true.1 h k (List.mem_range.2 hlt)
 rw [hk,ho] at h1
 simp only [Bool.not_true,Bool.false_or,Option.map_some,Option.getD_some] at h1
 have h2:=Array.all_eq_true'.1 h1 e he
 rw [hb] at h2
 simpa using h2
theorem Desc.no {listed : Array Bool} {i j : Nat} (hc : Closed md ops listed) (hi : listed.getD i false = false) (h : Desc md ops i j) : ∀ o,ops[j]? = some o → ¬ ∀ e ∈ o.after,Region.binds md e = true → listed.getD e.on false = true:=by
 induction h with
 | base ho h =>
  intro o ho' hall
  rw [ho] at ho'
  cases ho'
  obtain ⟨e,he,hb,rfl⟩:=h
  rw [hall e he hb] at hi
  cases hi
 | step ho h hk ih =>
  intro o ho' hall
  rw [ho] at ho'
  cases ho'
  obtain ⟨e,he,hb,rfl⟩:=h
  have hl:=hall e he hb
  cases hk with
  | base ho2 _ => exact ih _ ho2 fun e' he' hb' => hc _ hl _ ho2 e' he' hb'
  | step ho2 _ _ => exact ih _ ho2 fun e' he' hb' => hc _ hl _ ho2 e' he' hb'
theorem getD_set_mono {listed : Array Bool} {j k : Nat} (h : listed.getD k false = true) : (listed.setIfInBounds j true).getD k false = true:=by
 by_cases hjk : j = k
 ·subst hjk
  rcases Nat.lt_or_ge j listed.size with h' | h'
  ·simp [Array.getD_eq_getD_getElem?,h']
  ·simp [Array.getD_eq_getD_getElem?,Array.getElem?_eq_none h'] at h
 ·rw [getD_set_ne false hjk]; exact h
theorem Closed.step {listed : Array Bool} (hc : Closed md ops listed) {j : Nat} (hj : j ∈ Region.ready md ops listed) : Closed md ops (listed.setIfInBounds j true):=by
 obtain ⟨_,oj,hoj,hall⟩:=mem_ready.1 hj
 intro k hk o ho e he hb
 by_cases hjk : j = k
 ·subst hjk
  rw [hoj] at ho
  cases ho
  exact getD_set_mono (hall e he hb)
 ·rw [getD_set_ne false hjk] at hk
  exact getD_set_mono (hc k hk o ho e he hb)
/-- Every operation that is still to come and that G doesn't name waits for number i. -/
def waitsC (md : Region.Mode) (ops : Array Oper) (G : Nat → Bool) (listed : Array Bool) (i : Nat) : Bool :=
 (List.range ops.size).all fun j => listed.getD j true || G j || j == i || (descs md ops i).contains j
theorem waitsC_ok {i : Nat} {listed : Array Bool} (h : waitsC md ops G listed i = true) : ∀ j,j < ops.size → listed.getD j true = false → j ≠ i → G j = true ∨ Desc md ops i j:=by
 intro j hlt hun hne
 have h1:=List.all_eq_true.1 h j (List.mem_range.2 hlt)
 rw [hun] at h1
 simp only [Bool.false_or,Bool.or_eq_true,beq_iff_eq,hne,or_false,List.contains_eq_mem,decide_eq_true_eq] at h1
 rcases h1 with h1 | h1
 ·exact .inl h1
 ·rcases descs_ok _ h1 with h2 | h2
  ·exact absurd h2 hne
  ·exact .inr h2
theorem AnyG.firstC {i : Nat} {oi : Oper} {v : Value} (hi : ops[i]? = some oi) (hsel : Region.noSelect ops = true) 
  (hQ : ∀ c a w,Q (.panic c) (a.put oi.dst v) w → Q (.panic c) a w) :
  ∀ (fuel : Nat) (listed : Array Bool) (a : Act) (w : World),Closed md ops listed → (∀ j,j < ops.size → listed.getD j true = false → j ≠ i → G j = true ∨ Desc md ops i j) →
   (∀ j oj,ops[j]? = some oj → j ≠ i → listed.getD j true = false → (∀ e ∈ oj.after,Region.binds md e = true → e.on ≠ i) → oi.apart ops oj = true) →
   i ∈ Region.ready md ops listed → YieldsIf P ops S oi v a → S w →
   AnyG P md ops Q S G fuel (listed.setIfInBounds i true) (a.put oi.dst v) w → AnyG P md ops Q S G (fuel + 1) listed a w:=by
 intro fuel
 induction fuel with
 | zero =>
  intro listed a w _ _ _ hr hy hS H
  refine ⟨fun h => (by rw [h] at hr; cases hr),fun j hj => ?_⟩
  rcases Nat.decEq j i with hji | hji
  ·have hl:=ready_mono hj hji
   rw [H.1] at hl
   cases hl
  ·subst hji
   exact hy.wpOp hi hS ⟨fun _ => hS,H⟩
 | succ fuel ih =>
  intro listed a w hc hw hfree hr hy hS H
  refine ⟨fun h => (by rw [h] at hr; cases hr),fun j hj => ?_⟩
  rcases Nat.decEq j i with hji | hji
  ·obtain ⟨hjun,oj,hoj,hall⟩:=mem_ready.1 hj
   have hiun : listed.getD i false = false:=by
    have h0:=(mem_ready.1 hr).1
    rcases Nat.lt_or_ge i listed.size with h' | h'
    ·simp [h'] at h0 ⊢; exact h0
    ·simp [Array.getElem?_eq_none h']
   have hjun' : listed.getD j true = false:=hjun
   have hG : G j = true:=(hw j (Array.getElem?_eq_some_iff.1 hoj).1 hjun' hji).resolve_right fun hd => hd.no hc hiun _ hoj hall
   have hnot : ∀ e ∈ oj.after,Region.binds md e = true → e.on ≠ i:=fun e he hb heq => by
    have h2:=hall e he hb
    rw [heq,hiun] at h2
    cases h2
   have h2:=wpOp_putIf hoj (hfree j oj hoj hji hjun hnot) (fun cs b => Region.noSelect_spec hsel i oi cs b hi) (fun cs b => Region.noSelect_spec hsel j oj cs b hoj) hQ hy (H.2 j (ready_mono hj hji))
   refine wpOp_mono (fun a' w' h3 => ⟨h3.2.1,ih (listed.setIfInBounds j true) a' w' (hc.step hj) ?_ ?_ (ready_mono hr (Ne.symm hji)) h3.1 (h3.2.1 hG) ?_⟩) h2
   ·intro k hk hun hki
    refine hw k hk ?_ hki
    rcases Nat.decEq j k with hjk | hjk
    ·rw [getD_set_ne true hjk] at hun; exact hun
    ·subst hjk; exact hjun
   ·intro k ok hk hki hun hno
    refine hfree k ok hk hki ?_ hno
    rcases Nat.decEq j k with hjk | hjk
    ·rw [getD_set_ne true hjk] at hun; exact hun
    ·subst hjk; exact hjun
   ·rw [Array.setIfInBounds_comm _ _ hji]
    exact h3.2.2
  ·subst hji
   exact hy.wpOp hi hS ⟨fun _ => hS,H⟩
/-- Number i is taken first. -/
theorem AnyG.takeC {i : Nat} {oi : Oper} {v : Value} {fuel : Nat} {listed : Array Bool} {a : Act} {w : World} (hi : ops[i]? = some oi)
  (hs : (Region.noSelect ops && waitsC md ops G listed i && closedB md ops listed && Region.free md ops listed i && (Region.ready md ops listed).contains i) = true)
  (hQ : ∀ c a w,Q (.panic c) (a.put oi.dst v) w → Q (.panic c) a w) (hg : oi.guard = none) (hy : ∀ w,S w → (execOp a.eval oi).run P w = .ok (.value v) w) (hS : S w)
  (h : AnyG P md ops Q S G fuel (listed.setIfInBounds i true) (a.put oi.dst v) w) : AnyG P md ops Q S G (fuel + 1) listed a w:=by
 simp only [Bool.and_eq_true] at hs
 obtain ⟨⟨⟨⟨h1,h2⟩,h5⟩,h3⟩,h4⟩:=hs
 exact AnyG.firstC hi h1 hQ fuel listed a w (closedB_ok h5) (waitsC_ok h2) (Region.free_spec hi h3) (by simpa using h4) (.inl ⟨by simp [Region.wanted,hg],hy⟩) hS h
theorem AnyG.takeGC {i : Nat} {oi : Oper} {v : Value} {fuel : Nat} {listed : Array Bool} {a : Act} {w : World} (hi : ops[i]? = some oi)
  (hs : (Region.noSelect ops && waitsC md ops G listed i && closedB md ops listed && Region.free md ops listed i && (Region.ready md ops listed).contains i) = true)
  (hQ : ∀ c a w,Q (.panic c) (a.put oi.dst v) w → Q (.panic c) a w) (hg : Region.wanted oi (yielded ops a.tmps) = true) (hy : ∀ w,S w → (execOp a.eval oi).run P w = .ok (.value v) w) (hS : S w)
  (h : AnyG P md ops Q S G fuel (listed.setIfInBounds i true) (a.put oi.dst v) w) : AnyG P md ops Q S G (fuel + 1) listed a w:=by
 simp only [Bool.and_eq_true] at hs
 obtain ⟨⟨⟨⟨h1,h2⟩,h5⟩,h3⟩,h4⟩:=hs
 exact AnyG.firstC hi h1 hQ fuel listed a w (closedB_ok h5) (waitsC_ok h2) (Region.free_spec hi h3) (by simpa using h4) (.inl ⟨hg,hy⟩) hS h
theorem AnyG.takeNC {i : Nat} {oi : Oper} {fuel : Nat} {listed : Array Bool} {a : Act} {w : World} (hi : ops[i]? = some oi)
  (hs : (Region.noSelect ops && waitsC md ops G listed i && closedB md ops listed && Region.free md ops listed i && (Region.ready md ops listed).contains i) = true)
  (hQ : ∀ c a w,Q (.panic c) (a.put oi.dst undef) w → Q (.panic c) a w) (hg : Region.wanted oi (yielded ops a.tmps) = false) (hS : S w)
  (h : AnyG P md ops Q S G fuel (listed.setIfInBounds i true) (a.put oi.dst undef) w) : AnyG P md ops Q S G (fuel + 1) listed a w:=by
 simp only [Bool.and_eq_true] at hs
 obtain ⟨⟨⟨⟨h1,h2⟩,h5⟩,h3⟩,h4⟩:=hs
 exact AnyG.firstC hi h1 hQ fuel listed a w (closedB_ok h5) (waitsC_ok h2) (Region.free_spec hi h3) (by simpa using h4) (.inr ⟨hg,rfl⟩) hS h
/-- The beginning: what needs no world may be taken before. -/
theorem AnyG.startC {id : Nat} {a : Act} {w : World} (hm : P.follows .mixedOrders = true) (h : wpAny P .any ops Q ops.size (Array.replicate ops.size false) a w.drew) : (Code.region id ops true).wp P Q a w:=wp_region_any hm h
theorem AnyG.takeP {i : Nat} {oi : Oper} {v : Value} {fuel : Nat} {listed : Array Bool} {a : Act} {w : World} (hi : ops[i]? = some oi)
  (hs : (Region.noSelect ops && Region.free md ops listed i && (Region.ready md ops listed).contains i) = true)
  (hQ : ∀ c a w,Q (.panic c) (a.put oi.dst v) w → Q (.panic c) a w) (hg : oi.guard = none) (hy : ∀ w,(execOp a.eval oi).run P w = .ok (.value v) w)
  (h : wpAny P md ops Q fuel (listed.setIfInBounds i true) (a.put oi.dst v) w) : wpAny P md ops Q (fuel + 1) listed a w:=by
 simp only [Bool.and_eq_true] at hs
 obtain ⟨⟨h1,h3⟩,h4⟩:=hs
 exact wpAny_first hi (Region.noSelect_spec h1) hQ fuel listed a w (Region.free_spec hi h3) (by simpa using h4) (.inl ⟨by simp [Region.wanted,hg],hy⟩) h
theorem AnyG.enter {fuel : Nat} {listed : Array Bool} {a : Act} {w : World} (S : World → Prop) (G : Nat → Bool) (h : AnyG P md ops Q S G fuel listed a w) : wpAny P md ops Q fuel listed a w:=AnyG.any _ _ _ _ h
/-- The one operation that may come up is carried out (its guard lets it). -/
theorem AnyG.oneC {i : Nat} {o : Oper} {fuel : Nat} {listed : Array Bool} {a : Act} {w : World} (hr : Region.ready md ops listed = [i]) (ho : ops[i]? = some o) (hg : Region.wanted o (yielded ops a.tmps) = true)
  (h : o.wp P a w (Onward P md ops Q S G fuel i listed) Q) : AnyG P md ops Q S G (fuel + 1) listed a w:=by
 refine ⟨fun h0 => absurd (hr.symm.trans h0) (by simp),fun j hj => ?_⟩
 rw [hr] at hj
 obtain rfl : j = i:=by simpa using hj
 unfold wpOp
 rw [ho]
 show if Region.wanted o (yielded ops a.tmps) = true then _ else _
 rw [if_pos hg]
 exact .inl h
end
end
end Go.Proofs.Ytmemcopfeabcgaa

/-! Orders in memory. -/
namespace Go.Proofs.Ytmemcopfeabcgaa
open Go.RowKit
/-- Rows of one number, of two. -/
def inr (L : List Int) : List (List Value):=L.map fun x => [.int .i64 x]
def gnr (L : List (Int × Int)) : List (List Value):=L.map fun p => [.int .i64 p.1,.int .i64 p.2]
theorem inr_at {w : World} {B k : Nat} {A : Option Addr} {L : List Int} (h : Sl w B 1 A (inr L)) (hk : k < L.length) : ∃ ad,A = some ad ∧ ad.block < B ∧ w.cell? (ad.add k) = some (.int .i64 L[k]):=by
 obtain ⟨ad,h1,h2,h3⟩:=h.at_ (k:=k) (by simpa [inr] using hk)
 refine ⟨ad,h1,h2,?_⟩
 simp only [inr,List.getElem_map,Nat.mul_one] at h3
 exact h3.head rfl
theorem gnr_at {w : World} {B k : Nat} {A : Option Addr} {L : List (Int × Int)} (h : Sl w B 2 A (gnr L)) (hk : k < L.length) : ∃ ad,A = some ad ∧ ad.block < B ∧ w.cell? (ad.add (k * 2)) = some (.int .i64 L[k].1) ∧ w.cell? ⟨(ad.add (k * 2)).block,(ad.add (k * 2)).off + 1,none⟩ = some (.int .i64 L[k].2):=by
 obtain ⟨ad,h1,h2,h3⟩:=h.at_ (k:=k) (by simpa [gnr] using hk)
 refine ⟨ad,h1,h2,?_⟩
 simp only [gnr,List.getElem_map] at h3
 exact ⟨h3.head rfl,h3.next 0 rfl⟩
/-- The four cells of a bin. -/
def BinRow (w : World) (B : Nat) (r : List Value) (b : Bn) : Prop :=
 ∃ (A : Option Addr) (c : Nat),r = [.slice A b.gr.length c,.int .i64 b.w,.int .i64 b.c,.int .i64 b.g] ∧ Sl w B 2 A (gnr b.gr)
/-- The row of bins at A. -/
structure BinsAt (w : World) (B : Nat) (A : Option Addr) (bs : List Bn) : Prop where
 rows : ∃ rs : List (List Value),Sl w B 4 A rs ∧ rs.length = bs.length ∧ ∀ (j : Nat) (r : List Value) (b : Bn),rs[j]? = some r → bs[j]? = some b → BinRow w B r b
section
variable {w w' : World} {B B' : Nat} {A : Option Addr} {bs : List Bn}
theorem BinsAt.below (h : BinsAt w B A bs) (hb : Below B w w') : BinsAt w' B A bs:=by
 obtain ⟨rs,h1,h2,h3⟩:=h.rows
 refine ⟨rs,h1.below hb,h2,fun j r b hr hb' => ?_⟩
 obtain ⟨A',c,e,h4⟩:=h3 j r b hr hb'
 exact ⟨A',c,e,h4.below hb⟩
theorem BinsAt.more (h : BinsAt w B A bs) (hB : B ≤ B') : BinsAt w B' A bs:=by
 obtain ⟨rs,h1,h2,h3⟩:=h.rows
 refine ⟨rs,h1.more hB,h2,fun j r b hr hb' => ?_⟩
 obtain ⟨A',c,e,h4⟩:=h3 j r b hr hb'
 exact ⟨A',c,e,h4.more hB⟩
theorem BinsAt.at_ (h : BinsAt w B A bs) {k : Nat} (hk : k < bs.length) : ∃ (ad : Addr) (G : Option Addr) (c : Nat),A = some ad ∧ ad.block < B ∧
  w.cell? (ad.add (k * 4)) = some (.slice G bs[k].gr.length c) ∧ w.cell? ⟨(ad.add (k * 4)).block,(ad.add (k * 4)).off + 1,none⟩ = some (.int .i64 bs[k].w) ∧
  w.cell? ⟨(ad.add (k * 4)).block,(ad.add (k * 4)).off + 2,none⟩ = some (.int .i64 bs[k].c) ∧ w.cell? ⟨(ad.add (k * 4)).block,(ad.add (k * 4)).off + 3,none⟩ = some (.int .i64 bs[k].g) ∧ Sl w B 2 G (gnr bs[k].gr):=by
 obtain ⟨rs,h1,h2,h3⟩:=h.rows
 have hk' : k < rs.length:=by omega
 obtain ⟨ad,e1,e2,e3⟩:=h1.at_ hk'
 obtain ⟨G,c,e4,e5⟩:=h3 k rs[k] bs[k] (List.getElem?_eq_getElem hk') (List.getElem?_eq_getElem hk)
 rw [e4] at e3
 exact ⟨ad,G,c,e1,e2,e3.head rfl,e3.next 0 rfl,e3.next 1 rfl,e3.next 2 rfl,e5⟩
end
/-- An order in memory: its limits at LA, its bins at BA. -/
structure OrdAt (w : World) (B : Nat) (LA BA : Option Addr) (o : Od) : Prop where
 lm : Sl w B 1 LA (inr o.lm)
 bs : BinsAt w B BA o.bs
theorem OrdAt.below {w w' : World} {B : Nat} {LA BA : Option Addr} {o : Od} (h : OrdAt w B LA BA o) (hb : Below B w w') : OrdAt w' B LA BA o:=⟨h.lm.below hb,h.bs.below hb⟩
theorem OrdAt.more {w : World} {B B' : Nat} {LA BA : Option Addr} {o : Od} (h : OrdAt w B LA BA o) (hb : B ≤ B') : OrdAt w B' LA BA o:=⟨h.lm.more hb,h.bs.more hb⟩
theorem OrdAt.call {w w' : World} {LA BA : Option Addr} {o : Od} (h : OrdAt w w.heap.size LA BA o) (hb : Below w.heap.size w w') : OrdAt w' w'.heap.size LA BA o:=(h.below hb).more hb.size
theorem Sl.call {w w' : World} {s : Nat} {A : Option Addr} {xs : List (List Value)} (h : Sl w w.heap.size s A xs) (hb : Below w.heap.size w w') : Sl w' w'.heap.size s A xs:=(h.below hb).more hb.size
end Go.Proofs.Ytmemcopfeabcgaa
