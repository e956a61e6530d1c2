/- The law of Rel in the form in which it is used: the relations as a list, each step as an operation's own walk. -/
import Derived.Test.YtdlohfglmagneaaDoorRel
set_option linter.unusedSimpArgs false
set_option linter.unusedVariables false
namespace Go.Proofs.YtdlohfglmagneaaDoor.RegRel
open Go Go.RowKit
abbrev RelL := List (Nat × ((Nat → Value) → World → Prop))
def AllL {α : Type} : List α → (α → Prop) → Prop
  | [], _ => True
  | p :: r, φ => φ p ∧ AllL r φ
theorem allL_iff {α : Type} {L : List α} {φ : α → Prop} : AllL L φ ↔ ∀ p ∈ L, φ p := by
  induction L with
  | nil => simp [AllL]
  | cons p r ih => simp [AllL, ih]
section
variable {P : Program} {ops : Array Oper} {Q : Exit → Act → World → Prop} {S : World → Prop} {G : Nat → Bool}
theorem wpOps_go {i : Nat} {o : Oper} {rest : List Nat} {a : Act} {w : World} (ho : ops[i]? = some o) (hg : o.guard = none) (h : o.wp P a w (wpOps P ops Q rest) Q) : wpOps P ops Q (i :: rest) a w := by
  unfold wpOps
  rw [ho]
  show if Region.wanted o (yielded ops a.tmps) = true then _ else _
  rw [if_pos (by simp [Region.wanted, hg])]
  exact .inl h
theorem wpOps_end {a : Act} {w : World} (h : Q .normal a w) : wpOps P ops Q [] a w := h
def NoExit : Exit → Act → World → Prop := fun _ _ _ => False
/-- One operation's step. -/
def StepL (P : Program) (ops : Array Oper) (tab : List (Nat × Nat)) (a : Act) (vs : Nat → Value) (w1 : World) (p : Nat × ((Nat → Value) → World → Prop)) : Prop :=
  ∃ o d, ops[p.1]? = some o ∧ o.dst = some d ∧
    o.wp P { tmps := fillT tab vs a.tmps, defers := a.defers } w1 (fun a2 w2 => p.2 (upd vs p.1 (a2.tmps.getD d undef)) w2 ∧ Below w1.heap.size w1 w2 ∧ a2.defers = a.defers) NoExit
theorem AnyG.rel {w : World} {a : Act} {listed : Array Bool} {fuel : Nat} (D Z : List Nat) (pre : List (List Nat)) (tab : List (Nat × Nat)) (L : RelL)
    (hck : regOk ops pre tab D Z a.tmps.size = true)
    (hck2 : ((List.range ops.size).all (fun i => listed.getD i false == D.contains i && (D.contains i || Z.contains i || (L.lookup i).isSome)) && listed.size == ops.size && decide (undone listed ≤ fuel) && (D ++ Z).all (fun z => decide (z < ops.size) && (!Z.contains z || (!G z && !D.contains z)))) = true)
    (hck3' : ((L.map (·.1)).all (fun i => !D.contains i && !Z.contains i && decide (i < ops.size)) && decide ((L.map (·.1)).Pairwise (· ≠ ·))) = true)
    (hch : Z.Pairwise (fun x y => x ∈ pre.getD y [] ∧ x ≠ y)) (hnd : tab.Pairwise (fun x y => x.1 ≠ y.1)) (hS : ∀ w', Below w.heap.size w w' → S w')
    (hst : AllL L fun p => ∀ vs w1 w2, p.2 vs w1 → Below w1.heap.size w1 w2 → p.2 vs w2)
    (hcg : AllL L fun p => ∀ vs vs' w1, (∀ k, k = p.1 ∨ k ∈ pre.getD p.1 [] → vs' k = vs k) → p.2 vs w1 → p.2 vs' w1)
    (hstep : AllL L fun p => ∀ vs w1, AllL (L.filter fun q => (pre.getD p.1 []).contains q.1) (fun q => q.2 vs w1) → Below w.heap.size w w1 → StepL P ops tab a vs w1 p)
    (hfin : ∀ vs w1, AllL L (fun p => p.2 vs w1) → Below w.heap.size w w1 →
      wpOps P ops Q Z { tmps := fillT (tab.filter fun p => !Z.contains p.2) vs a.tmps, defers := a.defers } w1) : AnyG P .any ops Q S G fuel listed a w := by
  have hck3 : (L.map (·.1)).all (fun i => !D.contains i && !Z.contains i && decide (i < ops.size)) = true ∧ (L.map (·.1)).Pairwise (· ≠ ·) := by
    rw [Bool.and_eq_true] at hck3'
    exact ⟨hck3'.1, of_decide_eq_true hck3'.2⟩
  have hlk : ∀ (M : RelL), (M.map (·.1)).Pairwise (· ≠ ·) → ∀ p ∈ M, M.lookup p.1 = some p.2 := by
    intro M
    induction M with
    | nil => intro _ p hp; cases hp
    | cons q r ih =>
      intro hp p hm
      obtain ⟨x, y⟩ := q
      rw [List.map_cons, List.pairwise_cons] at hp
      rcases List.mem_cons.1 hm with rfl | hm
      · simp
      · have : (p.1 == x) = false := by
          have := hp.1 p.1 (List.mem_map_of_mem hm)
          simpa using fun e => this e.symm
        rw [List.lookup_cons, this]
        exact ih hp.2 p hm
  refine any_rel D Z pre tab L hck hck2 hch hnd hS (allL_iff.1 hst) (allL_iff.1 hcg) (fun p hp o ho vs w1 hq hb => ?_) (fun vs w1 hR hb => hfin vs w1 (allL_iff.2 fun p hp => ?_) hb)
  · obtain ⟨o', d, ho', hd, hw⟩ := allL_iff.1 hstep p hp vs w1 (allL_iff.2 fun q hq' => by
      obtain ⟨hm, hc⟩ := List.mem_filter.1 hq'
      exact hq q hm (by simpa using hc) (hlk L hck3.2 q hm)) hb
    rw [ho] at ho'
    obtain rfl : o = o' := Option.some.inj ho'
    have hpD : p.1 ∉ D := by
      have := List.all_eq_true.1 hck3.1 p.1 (List.mem_map_of_mem hp)
      simp at this; exact this.1.1
    have F := fit_of hck ho hpD
    have hds : d < a.tmps.size := (F.dst d hd).1
    have hev : execOp (Act.eval { tmps := fillT tab vs a.tmps, defers := a.defers }) o = execOp (evT tab a vs) o := by
      refine execOp_congr o F.sel fun x _ => ?_
      cases x with
      | tmp t =>
        simp only [Act.eval, evT]
        rcases Nat.lt_or_ge t a.tmps.size with ht | ht
        · exact fillT_get vs t tab a.tmps hnd ht
        · have h1 : (fillT tab vs a.tmps).getD t undef = undef := by
            rw [Array.getD_eq_getD_getElem?, Array.getElem?_eq_none (by rw [fillT_size]; exact ht)]; rfl
          have h2 : a.tmps.getD t undef = undef := by
            rw [Array.getD_eq_getD_getElem?, Array.getElem?_eq_none ht]; rfl
          rw [h1]
          cases hl : tab.lookup t with
          | none => exact h2.symm
          | some k =>
            exfalso
            have h3 := tab_of hck hl
            cases hok : ops[k]? with
            | none => rw [hok] at h3; simp at h3
            | some ok =>
              rw [hok] at h3
              have := ((fit_of hck hok (tab_nd hck hl)).dst t (by simpa using h3)).1
              exact absurd this (Nat.not_lt.2 ht)
      | const v => rfl
      | global g => rfl
      | func f => rfl
    unfold Oper.wp at hw
    rw [hev] at hw
    unfold Does
    have hput : ∀ v, (Act.put { tmps := fillT tab vs a.tmps, defers := a.defers } o.dst v).tmps.getD d undef = v := by
      intro v
      rw [hd]
      simp [Act.put, fillT_size, hds]
    generalize (execOp (evT tab a vs) o).run P w1 = r at hw ⊢
    cases r with
    | ok n w' =>
      cases n <;> simp only [Oper.upon] at hw ⊢
      case value v => rw [hput] at hw; exact ⟨hw.1, hw.2.1⟩
      case skip => rw [hput] at hw; exact ⟨hw.1, hw.2.1⟩
      case enter f args =>
        refine Calls.mono hw fun e w'' he => ?_
        cases e with
        | returned v => simp only at he; rw [hput] at he; exact ⟨v, rfl, he.1, he.2.1⟩
        | panicked c => exact he.elim
        | outgrown => obtain ⟨_, _, h⟩ := he; exact h.elim
      case row row args => exact Rows.mono hw fun v w'' he => by rw [hput] at he; exact ⟨he.1, he.2.1⟩
      case defer d' =>
        have := congrArg List.length hw.2.2
        rw [hd] at this
        simp [Act.put] at this
    | halt x w' =>
      cases x <;> simp only [Oper.upon] at hw
      all_goals first | exact hw.elim
  · have := List.all_eq_true.1 hck3.1 p.1 (List.mem_map_of_mem hp)
    simp at this
    exact hR p hp this.1.1 this.1.2 this.2 (hlk L hck3.2 p hp)
end
end Go.Proofs.YtdlohfglmagneaaDoor.RegRel

/-! The law of Rel with a relation of worlds of its own for each operation: what an operation may turn, and what the others' relations bear. -/
namespace Go.Proofs.YtdlohfglmagneaaDoor.RegRel
open Go Go.RowKit
section
variable {P : Program} {ops : Array Oper} {Q : Exit → Act → World → Prop} {S : World → Prop} {G : Nat → Bool}
section main3
variable (pre : List (List Nat)) (tab : List (Nat × Nat)) (D Z : List Nat) (a0 : Act) (R : Nat → (Nat → Value) → World → Prop) (T : World → Prop)
structure Inv3 (ops : Array Oper) (listed : Array Bool) (a : Act) (w : World) (vs : Nat → Value) : Prop where
  size : listed.size = ops.size
  done : ∀ d ∈ D, listed.getD d false = true
  z : ∀ i ∈ Z, listed.getD i true = false
  down : ∀ i k, i ∉ D → listed.getD i false = true → k ∈ pre.getD i [] → listed.getD k false = true
  defers : a.defers = a0.defers
  tsize : a.tmps.size = a0.tmps.size
  below : T w
  rel : ∀ i, i ∉ D → listed.getD i false = true → R i vs w
  val : ∀ t, a.tmps.getD t undef = match tab.lookup t with | some k => if listed.getD k false = true then vs k else a0.tmps.getD t undef | none => a0.tmps.getD t undef

variable {pre tab D Z a0 R T} {K : Nat → World → World → Prop}
theorem Inv3.step {listed : Array Bool} {a : Act} {w : World} {vs : Nat → Value} {i : Nat}
    (hck : regOk ops pre tab D Z a0.tmps.size = true)
    (hT : ∀ i w w', T w → K i w w' → T w')
    (hst : ∀ i j vs w w', j ∉ D → j ∉ Z → j ∉ pre.getD i [] → j ≠ i → R i vs w → T w → K j w w' → R i vs w')
    (hcg : ∀ i vs vs' w, (∀ k, k = i ∨ k ∈ pre.getD i [] → vs' k = vs k) → R i vs w → R i vs' w)
    (hstep : ∀ i o vs w, ops[i]? = some o → i ∉ D → i ∉ Z → (∀ k ∈ pre.getD i [], k ∉ D → R k vs w) → T w →
      Does P o (evT tab a0 vs) w fun v w' => R i (upd vs i v) w' ∧ K i w w')
    (hI : Inv3 pre tab D Z a0 R T ops listed a w vs) (hi : i ∈ Region.ready .any ops listed) (hz : i ∉ Z) :
    wpOp P ops Q i (fun a' w' => ∃ vs', Inv3 pre tab D Z a0 R T ops (listed.setIfInBounds i true) a' w' vs') a w := by
  obtain ⟨h0, o, ho, hall⟩ := mem_ready.1 hi
  have hid : i ∉ D := fun h => by have := hI.done i h; rw [getD_ff h0] at this; cases this
  have F := fit_of hck ho hid
  have hlt : i < ops.size := (Array.getElem?_eq_some_iff.1 ho).1
  have hpre : ∀ k ∈ pre.getD i [], listed.getD k false = true := by
    intro k hk
    obtain ⟨e, he, hb, hk'⟩ := F.prs k hk
    have hl := hall e he hb
    rcases hk' with rfl | hk'
    · exact hl
    · exact hI.down _ _ hk'.1 hl hk'.2
  have hev : execOp a.eval o = execOp (evT tab a0 vs) o := by
    refine execOp_congr o F.sel fun x hx => ?_
    cases x with
    | tmp t =>
      have hv := hI.val t
      simp only [Act.eval, evT]
      rw [hv]
      cases hl : tab.lookup t with
      | none => rfl
      | some k => simp only [hpre k (F.opd t hx k hl), if_true]
    | const v => rfl
    | global g => rfl
    | func f => rfl
  have key : ∀ v w', R i (upd vs i v) w' ∧ K i w w' → ∃ vs', Inv3 pre tab D Z a0 R T ops (listed.setIfInBounds i true) (a.put o.dst v) w' vs' := by
    rintro v w' ⟨hR, hB⟩
    have hne : ∀ k, listed.getD k false = true → k ≠ i := fun k hk e => by
      subst e; rw [getD_ff h0] at hk; cases hk
    refine ⟨upd vs i v, ?_, ?_, ?_, ?_, ?_, ?_, ?_, ?_, ?_⟩
    · simp [hI.size]
    · intro d hd; exact getD_set_true (hI.done d hd)
    · intro j hj
      rw [getD_set_ne true (fun e : i = j => hz (e ▸ hj))]; exact hI.z j hj
    · intro j k hjd hj hk
      rcases Nat.decEq j i with hji | hji
      · rw [getD_set_ne false (Ne.symm hji)] at hj
        exact getD_set_true (hI.down j k hjd hj hk)
      · subst hji; exact getD_set_true (hpre k hk)
    · cases o.dst <;> exact hI.defers
    · cases o.dst <;> simp [Act.put, hI.tsize]
    · exact hT i w w' hI.below hB
    · intro j hjd hj
      rcases Nat.decEq j i with hji | hji
      · rw [getD_set_ne false (Ne.symm hji)] at hj
        refine hcg j vs _ w' (fun k hk => ?_) (hst j i vs w w' hid hz (fun hm => by have := hI.down j i hjd hj hm; rw [getD_ff h0] at this; cases this) (Ne.symm hji) (hI.rel j hjd hj) hI.below hB)
        have hkl : listed.getD k false = true := by
          rcases hk with rfl | hk
          · exact hj
          · exact hI.down j k hjd hj hk
        simp [upd, hne k hkl]
      · subst hji; exact hR
    · intro t
      have hv := hI.val t
      cases hd : o.dst with
      | none =>
        simp only [Act.put]
        rw [hv]
        cases hl : tab.lookup t with
        | none => rfl
        | some k =>
          have hki : k ≠ i := fun e => by
            have := tab_of hck hl
            rw [e, ho] at this
            simp [hd] at this
          simp only [getD_set_ne false (Ne.symm hki), upd, hki, if_false]
      | some d =>
        obtain ⟨hds, hdl⟩ := F.dst d hd
        rcases Nat.decEq t d with htd | htd
        · simp only [Act.put]
          have : (a.tmps.setIfInBounds d v).getD t undef = a.tmps.getD t undef := by simp [Array.getD_eq_getD_getElem?, Array.getElem?_setIfInBounds_ne (Ne.symm htd)]
          rw [this, hv]
          cases hl : tab.lookup t with
          | none => rfl
          | some k =>
            have hki : k ≠ i := fun e => by
              have := tab_of hck hl
              rw [e, ho] at this
              simp [hd] at this
              exact htd this.symm
            simp only [getD_set_ne false (Ne.symm hki), upd, hki, if_false]
        · subst htd
          have h2 : (listed.setIfInBounds i true).getD i false = true := getD_set_self (by rw [hI.size]; exact hlt)
          simp only [Act.put, hdl, h2, if_true, upd]
          have : t < a.tmps.size := by rw [hI.tsize]; exact hds
          simp [this]
  unfold wpOp
  rw [ho]
  show if Region.wanted o (yielded ops a.tmps) = true then _ else _
  rw [if_pos (by simp [Region.wanted, F.guard])]
  refine .inl ?_
  have hs := hstep i o vs w ho hid hz (fun k hk hkd => hI.rel k hkd (hpre k hk)) hI.below
  unfold Oper.wp
  rw [hev]
  unfold Does at hs
  generalize (execOp (evT tab a0 vs) o).run P w = r at hs ⊢
  cases r with
  | ok n w' =>
    cases n <;> simp only [Oper.upon] at hs ⊢
    case value v => exact key v w' hs
    case skip => exact key undef w' hs
    case enter f args =>
      refine Calls.mono hs fun e w'' he => ?_
      obtain ⟨v, rfl, hk⟩ := he
      exact key v w'' hk
    case row row args => exact Rows.mono hs fun v w'' he => key v w'' he
    all_goals exact hs.elim
  | halt x w' => exact hs.elim

end main3
end
end Go.Proofs.YtdlohfglmagneaaDoor.RegRel
