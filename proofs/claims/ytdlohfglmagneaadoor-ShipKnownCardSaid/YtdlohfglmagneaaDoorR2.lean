/- The law of Rel for regions with several allocs: the blocks of those listed in A are different. -/
import Derived.Test.YtdlohfglmagneaaDoorR3M
set_option linter.unusedSimpArgs false
set_option linter.unusedVariables false
namespace Go.Proofs.YtdlohfglmagneaaDoor.RegRel
open Go Go.RowKit
section
variable {P : Program} {ops : Array Oper} {Q : Exit → Act → World → Prop} {S : World → Prop} {G : Nat → Bool}
section main
variable (A : List Nat) (pre : List (List Nat)) (tab : List (Nat × Nat)) (D Z : List Nat) (a0 : Act) (w0 : World) (R : Nat → (Nat → Value) → World → Prop)

structure Inv2 (ops : Array Oper) (listed : Array Bool) (a : Act) (w : World) (vs : Nat → Value) : Prop where
  size : listed.size = ops.size
  done : ∀ d ∈ D, listed.getD d false = true
  z : ∀ i ∈ Z, listed.getD i true = false
  down : ∀ i k, i ∉ D → listed.getD i false = true → k ∈ pre.getD i [] → listed.getD k false = true
  defers : a.defers = a0.defers
  tsize : a.tmps.size = a0.tmps.size
  below : Below w0.heap.size w0 w
  rel : ∀ i, i ∉ D → listed.getD i false = true → R i vs w
  val : ∀ t, a.tmps.getD t undef = match tab.lookup t with | some k => if listed.getD k false = true then vs k else a0.tmps.getD t undef | none => a0.tmps.getD t undef
  fresh : ∀ i ∈ A, listed.getD i false = true → ∃ g, vs i = .pointer (some ⟨g, 0, none⟩) ∧ g < w.heap.size
  dist : ∀ i ∈ A, ∀ j ∈ A, i ≠ j → listed.getD i false = true → listed.getD j false = true → vs i ≠ vs j

variable {A pre tab D Z a0 w0 R}

theorem Inv2.step {listed : Array Bool} {a : Act} {w : World} {vs : Nat → Value} {i : Nat}
    (hck : regOk ops pre tab D Z a0.tmps.size = true)
    (hst : ∀ i vs w w', R i vs w → Below w.heap.size w w' → R i vs w')
    (hcg : ∀ i vs vs' w, (∀ k, k = i ∨ k ∈ pre.getD i [] → vs' k = vs k) → R i vs w → R i vs' w)
    (hstep : ∀ i o vs w, ops[i]? = some o → i ∉ D → i ∉ Z → (∀ k ∈ pre.getD i [], k ∉ D → R k vs w) → Below w0.heap.size w0 w →
      Does P o (evT tab a0 vs) w fun v w' => R i (upd vs i v) w' ∧ Below w.heap.size w w' ∧ (i ∈ A → v = .pointer (some ⟨w.heap.size, 0, none⟩) ∧ w.heap.size < w'.heap.size))
    (hI : Inv2 A pre tab D Z a0 w0 R ops listed a w vs) (hi : i ∈ Region.ready .any ops listed) (hz : i ∉ Z) :
    wpOp P ops Q i (fun a' w' => ∃ vs', Inv2 A pre tab D Z a0 w0 R ops (listed.setIfInBounds i true) a' w' vs') a w := by
  obtain ⟨h0, o, ho, hall⟩ := mem_ready.1 hi
  have hid : i ∉ D := fun h => by have := hI.done i h; rw [getD_ff h0] at this; cases this
  have F := fit_of hck ho hid
  have hlt : i < ops.size := (Array.getElem?_eq_some_iff.1 ho).1
  have hpre : ∀ k ∈ pre.getD i [], listed.getD k false = true := by
    intro k hk
    obtain ⟨e, he, hb, hk'⟩ := F.prs k hk
    have hl := hall e he hb
    rcases hk' with rfl | hk'
    · exact hl
    · exact hI.down _ _ hk'.1 hl hk'.2
  have hev : execOp a.eval o = execOp (evT tab a0 vs) o := by
    refine execOp_congr o F.sel fun x hx => ?_
    cases x with
    | tmp t =>
      have hv := hI.val t
      simp only [Act.eval, evT]
      rw [hv]
      cases hl : tab.lookup t with
      | none => rfl
      | some k => simp only [hpre k (F.opd t hx k hl), if_true]
    | const v => rfl
    | global g => rfl
    | func f => rfl
  have key : ∀ v w', R i (upd vs i v) w' ∧ Below w.heap.size w w' ∧ (i ∈ A → v = .pointer (some ⟨w.heap.size, 0, none⟩) ∧ w.heap.size < w'.heap.size) → ∃ vs', Inv2 A pre tab D Z a0 w0 R ops (listed.setIfInBounds i true) (a.put o.dst v) w' vs' := by
    rintro v w' ⟨hR, hB, hA⟩
    have hne : ∀ k, listed.getD k false = true → k ≠ i := fun k hk e => by
      subst e; rw [getD_ff h0] at hk; cases hk
    refine ⟨upd vs i v, ?_, ?_, ?_, ?_, ?_, ?_, ?_, ?_, ?_, ?_, ?_⟩
    · simp [hI.size]
    · intro d hd; exact getD_set_true (hI.done d hd)
    · intro j hj
      rw [getD_set_ne true (fun e : i = j => hz (e ▸ hj))]; exact hI.z j hj
    · intro j k hjd hj hk
      rcases Nat.decEq j i with hji | hji
      · rw [getD_set_ne false (Ne.symm hji)] at hj
        exact getD_set_true (hI.down j k hjd hj hk)
      · subst hji; exact getD_set_true (hpre k hk)
    · cases o.dst <;> exact hI.defers
    · cases o.dst <;> simp [Act.put, hI.tsize]
    · exact hI.below.trans (hB.mono hI.below.size)
    · intro j hjd hj
      rcases Nat.decEq j i with hji | hji
      · rw [getD_set_ne false (Ne.symm hji)] at hj
        refine hcg j vs _ w' (fun k hk => ?_) (hst j vs w w' (hI.rel j hjd hj) hB)
        have hkl : listed.getD k false = true := by
          rcases hk with rfl | hk
          · exact hj
          · exact hI.down j k hjd hj hk
        simp [upd, hne k hkl]
      · subst hji; exact hR
    · intro t
      have hv := hI.val t
      cases hd : o.dst with
      | none =>
        simp only [Act.put]
        rw [hv]
        cases hl : tab.lookup t with
        | none => rfl
        | some k =>
          have hki : k ≠ i := fun e => by
            have := tab_of hck hl
            rw [e, ho] at this
            simp [hd] at this
          simp only [getD_set_ne false (Ne.symm hki), upd, hki, if_false]
      | some d =>
        obtain ⟨hds, hdl⟩ := F.dst d hd
        rcases Nat.decEq t d with htd | htd
        · simp only [Act.put]
          have : (a.tmps.setIfInBounds d v).getD t undef = a.tmps.getD t undef := by simp [Array.getD_eq_getD_getElem?, Array.getElem?_setIfInBounds_ne (Ne.symm htd)]
          rw [this, hv]
          cases hl : tab.lookup t with
          | none => rfl
          | some k =>
            have hki : k ≠ i := fun e => by
              have := tab_of hck hl
              rw [e, ho] at this
              simp [hd] at this
              exact htd this.symm
            simp only [getD_set_ne false (Ne.symm hki), upd, hki, if_false]
        · subst htd
          have h2 : (listed.setIfInBounds i true).getD i false = true := getD_set_self (by rw [hI.size]; exact hlt)
          simp only [Act.put, hdl, h2, if_true, upd]
          have : t < a.tmps.size := by rw [hI.tsize]; exact hds
          simp [this]
    · intro j hj hl
      rcases Nat.decEq j i with hji | hji
      · rw [getD_set_ne false (Ne.symm hji)] at hl
        obtain ⟨g, h1, h2⟩ := hI.fresh j hj hl
        exact ⟨g, by simp [upd, hji, h1], by have := hB.size; omega⟩
      · subst hji
        exact ⟨_, by simp only [upd, if_true]; exact (hA hj).1, (hA hj).2⟩
    · intro j hj k hk hjk hlj hlk
      rcases Nat.decEq j i with hji | hji
      · rw [getD_set_ne false (Ne.symm hji)] at hlj
        rcases Nat.decEq k i with hki | hki
        · rw [getD_set_ne false (Ne.symm hki)] at hlk
          simp only [upd, hji, hki, if_false]
          exact hI.dist j hj k hk hjk hlj hlk
        · subst hki
          obtain ⟨g, h1, h2⟩ := hI.fresh j hj hlj
          simp only [upd, hji, if_false, if_true]
          rw [h1, (hA hk).1]
          intro e
          injection e with e; injection e with e; injection e with e
          omega
      · subst hji
        have hki : k ≠ j := fun e => hjk e.symm
        rw [getD_set_ne false (Ne.symm hki)] at hlk
        obtain ⟨g, h1, h2⟩ := hI.fresh k hk hlk
        simp only [upd, hki, if_false, if_true]
        rw [h1, (hA hj).1]
        intro e
        injection e with e; injection e with e; injection e with e
        omega
  unfold wpOp
  rw [ho]
  show if Region.wanted o (yielded ops a.tmps) = true then _ else _
  rw [if_pos (by simp [Region.wanted, F.guard])]
  refine .inl ?_
  have hs := hstep i o vs w ho hid hz (fun k hk hkd => hI.rel k hkd (hpre k hk)) hI.below
  unfold Oper.wp
  rw [hev]
  unfold Does at hs
  generalize (execOp (evT tab a0 vs) o).run P w = r at hs ⊢
  cases r with
  | ok n w' =>
    cases n <;> simp only [Oper.upon] at hs ⊢
    case value v => exact key v w' hs
    case skip => exact key undef w' hs
    case enter f args =>
      refine Calls.mono hs fun e w'' he => ?_
      obtain ⟨v, rfl, hk⟩ := he
      exact key v w'' hk
    case row row args => exact Rows.mono hs fun v w'' he => key v w'' he
    all_goals exact hs.elim
  | halt x w' => exact hs.elim

theorem inv_any2 (hck : regOk ops pre tab D Z a0.tmps.size = true) (hS : ∀ w, Below w0.heap.size w0 w → S w)
    (hst : ∀ i vs w w', R i vs w → Below w.heap.size w w' → R i vs w')
    (hcg : ∀ i vs vs' w, (∀ k, k = i ∨ k ∈ pre.getD i [] → vs' k = vs k) → R i vs w → R i vs' w)
    (hstep : ∀ i o vs w, ops[i]? = some o → i ∉ D → i ∉ Z → (∀ k ∈ pre.getD i [], k ∉ D → R k vs w) → Below w0.heap.size w0 w →
      Does P o (evT tab a0 vs) w fun v w' => R i (upd vs i v) w' ∧ Below w.heap.size w w' ∧ (i ∈ A → v = .pointer (some ⟨w.heap.size, 0, none⟩) ∧ w.heap.size < w'.heap.size))
    (hfin : ∀ listed a w vs, Inv2 A pre tab D Z a0 w0 R ops listed a w vs → (∀ i, i < ops.size → i ∉ Z → listed.getD i false = true) → ∀ fuel, undone listed ≤ fuel → AnyG P .any ops Q S G fuel listed a w) :
    ∀ (fuel : Nat) (listed : Array Bool) (a : Act) (w : World) (vs : Nat → Value), undone listed ≤ fuel → Inv2 A pre tab D Z a0 w0 R ops listed a w vs → AnyG P .any ops Q S G fuel listed a w := by
  intro fuel
  induction fuel with
  | zero =>
    intro listed a w vs hu hI
    refine hfin listed a w vs hI (fun i hi _ => ?_) 0 hu
    cases hl : listed.getD i false with
    | true => rfl
    | false =>
      have : 0 < undone listed := undone_pos (i := i) (by
        have : i < listed.size := by rw [hI.size]; exact hi
        simp [this] at hl ⊢; exact hl)
      omega
  | succ fuel ih =>
    intro listed a w vs hu hI
    by_cases hall : ∀ i, i < ops.size → i ∉ Z → listed.getD i false = true
    · exact hfin listed a w vs hI hall _ hu
    · refine ⟨fun hr => absurd (fun i hi _ => exists_ready hck hI.size hI.done hr i hi) hall, fun i hi => ?_⟩
      have hz : i ∉ Z := fun hz => hall fun k hk hkz => by
        obtain ⟨h0, o, ho, he⟩ := mem_ready.1 hi
        rcases Classical.em (k ∈ D) with hkd | hkd
        · exact hI.done k hkd
        have F := fit_of hck ho (fun h => by have := hI.done i h; rw [getD_ff h0] at this; cases this)
        obtain ⟨e, he', hb, hk'⟩ := F.prs k (F.last hz k hk hkd hkz)
        have hl := he e he' hb
        rcases hk' with rfl | hk'
        · exact hl
        · exact hI.down _ _ hk'.1 hl hk'.2
      refine wpOp_mono (fun a' w' h => ?_) (Inv2.step hck hst hcg hstep hI hi hz)
      obtain ⟨vs', h'⟩ := h
      have h0 := (mem_ready.1 hi).1
      exact ⟨fun _ => hS w' h'.below, ih _ a' w' vs' (by have := undone_set h0; omega) h'⟩

/-- A region that draws its order, some operations (D) carried out: one relation for each of the others but the last ones (Z), which come behind all others in their order. -/
theorem any_rel2 {w : World} {a : Act} {listed : Array Bool} {fuel : Nat} (A D Z : List Nat) (pre : List (List Nat)) (tab : List (Nat × Nat)) (L : List (Nat × ((Nat → Value) → World → Prop)))
    (hA0 : ∀ i ∈ A, i < ops.size ∧ i ∉ D ∧ i ∉ Z) (hck : regOk ops pre tab D Z a.tmps.size = true)
    (hck2 : ((List.range ops.size).all (fun i => listed.getD i false == D.contains i && (D.contains i || Z.contains i || (L.lookup i).isSome)) && listed.size == ops.size && decide (undone listed ≤ fuel) && (D ++ Z).all (fun z => decide (z < ops.size) && (!Z.contains z || (!G z && !D.contains z)))) = true)
    (hch : Z.Pairwise (fun x y => x ∈ pre.getD y [] ∧ x ≠ y)) (hnd : tab.Pairwise (fun x y => x.1 ≠ y.1)) (hS : ∀ w', Below w.heap.size w w' → S w')
    (hst : ∀ p ∈ L, ∀ vs w1 w2, p.2 vs w1 → Below w1.heap.size w1 w2 → p.2 vs w2)
    (hcg : ∀ p ∈ L, ∀ vs vs' w1, (∀ k, k = p.1 ∨ k ∈ pre.getD p.1 [] → vs' k = vs k) → p.2 vs w1 → p.2 vs' w1)
    (hstep : ∀ p ∈ L, ∀ o, ops[p.1]? = some o → ∀ vs w1, (∀ q ∈ L, q.1 ∈ pre.getD p.1 [] → L.lookup q.1 = some q.2 → q.2 vs w1) → Below w.heap.size w w1 →
      Does P o (evT tab a vs) w1 fun v w2 => p.2 (upd vs p.1 v) w2 ∧ Below w1.heap.size w1 w2 ∧ (p.1 ∈ A → v = .pointer (some ⟨w1.heap.size, 0, none⟩) ∧ w1.heap.size < w2.heap.size))
    (hfin : ∀ vs w1, (∀ p ∈ L, p.1 ∉ D → p.1 ∉ Z → p.1 < ops.size → L.lookup p.1 = some p.2 → p.2 vs w1) → Below w.heap.size w w1 → (∀ i ∈ A, ∀ j ∈ A, i ≠ j → vs i ≠ vs j) →
      wpOps P ops Q Z { tmps := fillT (tab.filter fun p => !Z.contains p.2) vs a.tmps, defers := a.defers } w1) : AnyG P .any ops Q S G fuel listed a w := by
  simp only [Bool.and_eq_true, List.all_eq_true, List.mem_range, beq_iff_eq, decide_eq_true_eq] at hck2
  obtain ⟨⟨⟨c1, c2⟩, c3⟩, c4⟩ := hck2
  have hD : ∀ i, i < ops.size → (listed.getD i false = true ↔ i ∈ D) := fun i hi => by rw [(c1 i hi).1]; simp
  have hzl : ∀ z ∈ Z, z < ops.size := fun z hz => (c4 z (by simp [hz])).1
  have hdl : ∀ z ∈ D, z < ops.size := fun z hz => (c4 z (by simp [hz])).1
  have hzg : ∀ z ∈ Z, G z = false ∧ z ∉ D := fun z hz => by
    have := (c4 z (by simp [hz])).2
    simpa [hz] using this
  refine inv_any2 (A := A) (pre := pre) (tab := tab) (D := D) (Z := Z) (a0 := a) (w0 := w) (R := relOf L) hck hS ?_ ?_ ?_ (fun listed a' w' vs hI hall fuel hu => ?_) _ _ _ _ (fun _ => undef) c3 ?_
  · intro i vs w1 w2 h hb
    unfold relOf at h ⊢
    cases hl : L.lookup i with
    | none => trivial
    | some p => rw [hl] at h; exact hst _ (lookupR_mem hl) vs w1 w2 h hb
  · intro i vs vs' w1 hk h
    unfold relOf at h ⊢
    cases hl : L.lookup i with
    | none => trivial
    | some p => rw [hl] at h; exact hcg _ (lookupR_mem hl) vs vs' w1 hk h
  · intro i o vs w1 ho hid hiz hpre hb
    have hlt : i < ops.size := (Array.getElem?_eq_some_iff.1 ho).1
    have h1 := (c1 i hlt).2
    cases hl : L.lookup i with
    | none => simp [hl, hid, hiz] at h1
    | some p =>
      have := hstep _ (lookupR_mem hl) o ho vs w1 (fun q hq hqp hql => ?_) hb
      · unfold relOf; simp only [hl]; exact this
      · rcases Classical.em (q.1 ∈ D) with hqd | hqd
        · exact absurd hqd ((fit_of hck ho hid).nd _ hqp)
        · have := hpre q.1 hqp hqd
          unfold relOf at this; rw [hql] at this; exact this
  · have hl : ∀ i, i < ops.size → (listed.getD i false = true ↔ i ∉ Z) := fun i hi => ⟨fun h hz => (by
      rw [getD_ff (hI.z i hz)] at h; exact absurd h (by simp)), fun hz => hall i hi hz⟩
    have ha : a' = { tmps := fillT (tab.filter fun p => !Z.contains p.2) vs a.tmps, defers := a.defers } := by
      have ht : a'.tmps = fillT (tab.filter fun p => !Z.contains p.2) vs a.tmps := by
        apply Array.ext
        · rw [fillT_size, hI.tsize]
        · intro t h1 h2
          have hts : t < a.tmps.size := by rw [← hI.tsize]; exact h1
          have e1 : a'.tmps[t] = a'.tmps.getD t undef := by simp [h1]
          have e2 : (fillT (tab.filter fun p => !Z.contains p.2) vs a.tmps)[t] = (fillT (tab.filter fun p => !Z.contains p.2) vs a.tmps).getD t undef := by
            rw [Array.getD_eq_getD_getElem?, Array.getElem?_eq_getElem h2]; rfl
          rw [e1, e2, hI.val t, fillT_get vs t _ _ (hnd.filter _) hts]
          rw [lookup_filter t _ tab hnd]
          cases hl' : tab.lookup t with
          | none => rfl
          | some k =>
            have hk := tab_of hck hl'
            have hks : k < ops.size := by
              cases ho : ops[k]? with
              | none => rw [ho] at hk; simp at hk
              | some o => exact (Array.getElem?_eq_some_iff.1 ho).1
            by_cases hz : k ∈ Z
            · have hq : (!Z.contains k) = false := by simp [hz]
              show (if listed.getD k false = true then vs k else a.tmps.getD t undef) = (match (if (!Z.contains k) = true then some k else none) with | some k => vs k | none => a.tmps.getD t undef)
              rw [if_neg (fun h => (hl k hks).1 h hz), hq]
              rfl
            · have hq : (!Z.contains k) = true := by simp [hz]
              show (if listed.getD k false = true then vs k else a.tmps.getD t undef) = (match (if (!Z.contains k) = true then some k else none) with | some k => vs k | none => a.tmps.getD t undef)
              rw [if_pos ((hl k hks).2 hz), hq]
              rfl
      have hd := hI.defers
      cases a'; simp only at ht hd; rw [ht, hd]
    refine any_chain hck Z listed a' w' hI.size (fun z hz => (hzg z hz).1) hI.done hl hI.down hch hzl ?_ fuel hu
    rw [ha]
    exact hfin vs w' (fun p _ hpd hpz hp hpl => by
      have := hI.rel p.1 hpd (hall p.1 hp hpz)
      unfold relOf at this; rw [hpl] at this; exact this) hI.below (fun i hi j hj hij => hI.dist i hi j hj hij (hall i (hA0 i hi).1 (hA0 i hi).2.2) (hall j (hA0 j hj).1 (hA0 j hj).2.2))
  · refine ⟨c2, fun d hd => (hD d (hdl d hd)).2 hd, fun z hz => ?_, fun i k hid h => ?_, rfl, rfl, Below.refl _ _, fun i hid h => ?_, fun t => ?_, fun i hi h => absurd ((hD i (hA0 i hi).1).1 h) (hA0 i hi).2.1, fun i hi j hj _ h => absurd ((hD i (hA0 i hi).1).1 h) (hA0 i hi).2.1⟩
    · have h1 := (not_congr (hD z (hzl z hz))).2 (hzg z hz).2
      have h2 : z < listed.size := by rw [c2]; exact hzl z hz
      simp [h2] at h1 ⊢; exact h1
    · rcases Nat.lt_or_ge i ops.size with hi | hi
      · exact absurd ((hD i hi).1 h) hid
      · simp [Array.getElem?_eq_none (show listed.size ≤ i by omega)] at h
    · rcases Nat.lt_or_ge i ops.size with hi | hi
      · exact absurd ((hD i hi).1 h) hid
      · simp [Array.getElem?_eq_none (show listed.size ≤ i by omega)] at h
    · cases hl' : tab.lookup t with
      | none => rfl
      | some k =>
        have hk := tab_of hck hl'
        have hks : k < ops.size := by
          cases ho : ops[k]? with
          | none => rw [ho] at hk; simp at hk
          | some o => exact (Array.getElem?_eq_some_iff.1 ho).1
        have hkd := tab_nd hck hl'
        have h1 := (not_congr (hD k hks)).2 hkd
        show _ = if listed.getD k false = true then _ else _
        rw [if_neg h1]
end main
/-- One operation's step. -/
def StepA (A : List Nat) (P : Program) (ops : Array Oper) (tab : List (Nat × Nat)) (a : Act) (vs : Nat → Value) (w1 : World) (p : Nat × ((Nat → Value) → World → Prop)) : Prop :=
  ∃ o d, ops[p.1]? = some o ∧ o.dst = some d ∧
    o.wp P { tmps := fillT tab vs a.tmps, defers := a.defers } w1 (fun a2 w2 => p.2 (upd vs p.1 (a2.tmps.getD d undef)) w2 ∧ Below w1.heap.size w1 w2 ∧ a2.defers = a.defers ∧ (A.contains p.1 = true → a2.tmps.getD d undef = .pointer (some ⟨w1.heap.size, 0, none⟩) ∧ w1.heap.size < w2.heap.size)) NoExit
theorem AnyG.rel2 {w : World} {a : Act} {listed : Array Bool} {fuel : Nat} (A D Z : List Nat) (pre : List (List Nat)) (tab : List (Nat × Nat)) (L : RelL)
    (hA0 : (A.all fun i => decide (i < ops.size) && !D.contains i && !Z.contains i) = true) (hck : regOk ops pre tab D Z a.tmps.size = true)
    (hck2 : ((List.range ops.size).all (fun i => listed.getD i false == D.contains i && (D.contains i || Z.contains i || (L.lookup i).isSome)) && listed.size == ops.size && decide (undone listed ≤ fuel) && (D ++ Z).all (fun z => decide (z < ops.size) && (!Z.contains z || (!G z && !D.contains z)))) = true)
    (hck3' : ((L.map (·.1)).all (fun i => !D.contains i && !Z.contains i && decide (i < ops.size)) && decide ((L.map (·.1)).Pairwise (· ≠ ·))) = true)
    (hch : Z.Pairwise (fun x y => x ∈ pre.getD y [] ∧ x ≠ y)) (hnd : tab.Pairwise (fun x y => x.1 ≠ y.1)) (hS : ∀ w', Below w.heap.size w w' → S w')
    (hst : AllL L fun p => ∀ vs w1 w2, p.2 vs w1 → Below w1.heap.size w1 w2 → p.2 vs w2)
    (hcg : AllL L fun p => ∀ vs vs' w1, (∀ k, k = p.1 ∨ k ∈ pre.getD p.1 [] → vs' k = vs k) → p.2 vs w1 → p.2 vs' w1)
    (hstep : AllL L fun p => ∀ vs w1, AllL (L.filter fun q => (pre.getD p.1 []).contains q.1) (fun q => q.2 vs w1) → Below w.heap.size w w1 → StepA A P ops tab a vs w1 p)
    (hfin : ∀ vs w1, AllL L (fun p => p.2 vs w1) → Below w.heap.size w w1 → (∀ i ∈ A, ∀ j ∈ A, i ≠ j → vs i ≠ vs j) →
      wpOps P ops Q Z { tmps := fillT (tab.filter fun p => !Z.contains p.2) vs a.tmps, defers := a.defers } w1) : AnyG P .any ops Q S G fuel listed a w := by
  have hck3 : (L.map (·.1)).all (fun i => !D.contains i && !Z.contains i && decide (i < ops.size)) = true ∧ (L.map (·.1)).Pairwise (· ≠ ·) := by
    rw [Bool.and_eq_true] at hck3'
    exact ⟨hck3'.1, of_decide_eq_true hck3'.2⟩
  have hlk : ∀ (M : RelL), (M.map (·.1)).Pairwise (· ≠ ·) → ∀ p ∈ M, M.lookup p.1 = some p.2 := by
    intro M
    induction M with
    | nil => intro _ p hp; cases hp
    | cons q r ih =>
      intro hp p hm
      obtain ⟨x, y⟩ := q
      rw [List.map_cons, List.pairwise_cons] at hp
      rcases List.mem_cons.1 hm with rfl | hm
      · simp
      · have : (p.1 == x) = false := by
          have := hp.1 p.1 (List.mem_map_of_mem hm)
          simpa using fun e => this e.symm
        rw [List.lookup_cons, this]
        exact ih hp.2 p hm
  have hA1 : ∀ i ∈ A, i < ops.size ∧ i ∉ D ∧ i ∉ Z := fun i hi => by
    have := List.all_eq_true.1 hA0 i hi
    simp at this
    exact ⟨this.1.1, this.1.2, this.2⟩
  refine any_rel2 A D Z pre tab L hA1 hck hck2 hch hnd hS (allL_iff.1 hst) (allL_iff.1 hcg) (fun p hp o ho vs w1 hq hb => ?_) (fun vs w1 hR hb hd => hfin vs w1 (allL_iff.2 fun p hp => ?_) hb hd)
  · obtain ⟨o', d, ho', hd, hw⟩ := allL_iff.1 hstep p hp vs w1 (allL_iff.2 fun q hq' => by
      obtain ⟨hm, hc⟩ := List.mem_filter.1 hq'
      exact hq q hm (by simpa using hc) (hlk L hck3.2 q hm)) hb
    rw [ho] at ho'
    obtain rfl : o = o' := Option.some.inj ho'
    have hpD : p.1 ∉ D := by
      have := List.all_eq_true.1 hck3.1 p.1 (List.mem_map_of_mem hp)
      simp at this; exact this.1.1
    have F := fit_of hck ho hpD
    have hds : d < a.tmps.size := (F.dst d hd).1
    have hev : execOp (Act.eval { tmps := fillT tab vs a.tmps, defers := a.defers }) o = execOp (evT tab a vs) o := by
      refine execOp_congr o F.sel fun x _ => ?_
      cases x with
      | tmp t =>
        simp only [Act.eval, evT]
        rcases Nat.lt_or_ge t a.tmps.size with ht | ht
        · exact fillT_get vs t tab a.tmps hnd ht
        · have h1 : (fillT tab vs a.tmps).getD t undef = undef := by
            rw [Array.getD_eq_getD_getElem?, Array.getElem?_eq_none (by rw [fillT_size]; exact ht)]; rfl
          have h2 : a.tmps.getD t undef = undef := by
            rw [Array.getD_eq_getD_getElem?, Array.getElem?_eq_none ht]; rfl
          rw [h1]
          cases hl : tab.lookup t with
          | none => exact h2.symm
          | some k =>
            exfalso
            have h3 := tab_of hck hl
            cases hok : ops[k]? with
            | none => rw [hok] at h3; simp at h3
            | some ok =>
              rw [hok] at h3
              have := ((fit_of hck hok (tab_nd hck hl)).dst t (by simpa using h3)).1
              exact absurd this (Nat.not_lt.2 ht)
      | const v => rfl
      | global g => rfl
      | func f => rfl
    unfold Oper.wp at hw
    rw [hev] at hw
    unfold Does
    have hput : ∀ v, (Act.put { tmps := fillT tab vs a.tmps, defers := a.defers } o.dst v).tmps.getD d undef = v := by
      intro v
      rw [hd]
      simp [Act.put, fillT_size, hds]
    generalize (execOp (evT tab a vs) o).run P w1 = r at hw ⊢
    cases r with
    | ok n w' =>
      cases n <;> simp only [Oper.upon] at hw ⊢
      case value v => rw [hput] at hw; exact ⟨hw.1, hw.2.1, fun hA => hw.2.2.2 (by simpa using hA)⟩
      case skip => rw [hput] at hw; exact ⟨hw.1, hw.2.1, fun hA => hw.2.2.2 (by simpa using hA)⟩
      case enter f args =>
        refine Calls.mono hw fun e w'' he => ?_
        cases e with
        | returned v => simp only at he; rw [hput] at he; exact ⟨v, rfl, he.1, he.2.1, fun hA => he.2.2.2 (by simpa using hA)⟩
        | panicked c => exact he.elim
        | outgrown => obtain ⟨_, _, h⟩ := he; exact h.elim
      case row row args => exact Rows.mono hw fun v w'' he => by rw [hput] at he; exact ⟨he.1, he.2.1, fun hA => he.2.2.2 (by simpa using hA)⟩
      case defer d' =>
        have := congrArg List.length hw.2.2.1
        rw [hd] at this
        simp [Act.put] at this
    | halt x w' =>
      cases x <;> simp only [Oper.upon] at hw
      all_goals first | exact hw.elim
  · have := List.all_eq_true.1 hck3.1 p.1 (List.mem_map_of_mem hp)
    simp at this
    exact hR p hp this.1.1 this.1.2 this.2 (hlk L hck3.2 p hp)
end
end Go.Proofs.YtdlohfglmagneaaDoor.RegRel
