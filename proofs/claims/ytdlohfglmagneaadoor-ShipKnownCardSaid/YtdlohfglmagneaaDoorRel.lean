/- Regions that draw their order: one relation for each operation (what it yields, and what lies in memory then), each shown once, whatever order is picked. -/
import Derived.Test.YtdlohfglmagneaaDoorItM
set_option linter.unusedSimpArgs false
set_option linter.unusedVariables false
namespace Go.Proofs.YtdlohfglmagneaaDoor.RegRel
open Go Go.RowKit
section
variable {P : Program} {ops : Array Oper} {Q : Exit → Act → World → Prop} {S : World → Prop} {G : Nat → Bool}

def undone (listed : Array Bool) : Nat := listed.toList.countP (!·)
def upd (vs : Nat → Value) (i : Nat) (v : Value) : Nat → Value := fun k => if k = i then v else vs k
/-- What an operand reads: the value of the operation that writes it, or what lay there. -/
def evT (tab : List (Nat × Nat)) (a0 : Act) (vs : Nat → Value) : Operand → Value
  | .tmp t => match tab.lookup t with
    | some k => vs k
    | none => a0.tmps.getD t undef
  | x => a0.eval x
/-- An operation yields, in a world, what K says. -/
def Does (P : Program) (o : Oper) (ev : Operand → Value) (w : World) (K : Value → World → Prop) : Prop :=
  match (execOp ev o).run P w with
  | .ok (.value v) w' => K v w'
  | .ok .skip w' => K undef w'
  | .ok (.enter f args) w' => Calls P f args w' fun e w'' => ∃ v, e = .returned v ∧ K v w''
  | .ok (.row row args) w' => Rows P row args w' K
  | _ => False

/-- The check of one operation. -/
def opOk (pre : List (List Nat)) (tab : List (Nat × Nat)) (D Z : List Nat) (size n i : Nat) (o : Oper) : Bool :=
  (match o.guard with | none => true | some _ => false) &&
  (match o.op with | .select _ _ => false | _ => true) &&
  o.after.toList.all (fun e => !Region.binds .any e || decide (e.on < i)) &&
  (pre.getD i []).all (fun k => !D.contains k && o.after.toList.any fun e => Region.binds .any e && (e.on == k || (!D.contains e.on && (pre.getD e.on []).contains k))) &&
  o.op.operands.toList.all (fun x => match x with
    | .tmp t => (match tab.lookup t with | some k => (pre.getD i []).contains k | none => true)
    | _ => true) &&
  (match o.dst with | some d => decide (d < size) && (tab.lookup d == some i) | none => true) &&
  (!Z.contains i || (List.range n).all fun k => D.contains k || Z.contains k || (pre.getD i []).contains k)
/-- The check of a region against tables of what comes before what, and of who writes what. -/
def regOk (ops : Array Oper) (pre : List (List Nat)) (tab : List (Nat × Nat)) (D Z : List Nat) (size : Nat) : Bool :=
  (List.range ops.size).all (fun i => match ops[i]? with
    | none => false
    | some o => D.contains i || opOk pre tab D Z size ops.size i o) &&
  tab.all (fun tk => (ops[tk.2]?).bind (·.dst) == some tk.1 && !D.contains tk.2)

theorem lookup_mem {tab : List (Nat × Nat)} {t k : Nat} (h : tab.lookup t = some k) : (t, k) ∈ tab := by
  induction tab with
  | nil => simp at h
  | cons p r ih =>
    obtain ⟨a, b⟩ := p
    simp only [List.lookup_cons] at h
    by_cases e : t = a
    · subst e; simp at h; simp [h]
    · have : (t == a) = false := by simpa using e
      rw [this] at h
      exact List.mem_cons_of_mem _ (ih h)

structure Fit (ops : Array Oper) (pre : List (List Nat)) (tab : List (Nat × Nat)) (D Z : List Nat) (size i : Nat) (o : Oper) : Prop where
  guard : o.guard = none
  sel : ∀ cs b, o.op ≠ .select cs b
  edge : ∀ e ∈ o.after, Region.binds .any e = true → e.on < i
  nd : ∀ k ∈ pre.getD i [], k ∉ D
  prs : ∀ k ∈ pre.getD i [], ∃ e ∈ o.after, Region.binds .any e = true ∧ (e.on = k ∨ e.on ∉ D ∧ k ∈ pre.getD e.on [])
  opd : ∀ t, Operand.tmp t ∈ o.op.operands → ∀ k, tab.lookup t = some k → k ∈ pre.getD i []
  dst : ∀ d, o.dst = some d → d < size ∧ tab.lookup d = some i
  last : i ∈ Z → ∀ k, k < ops.size → k ∉ D → k ∉ Z → k ∈ pre.getD i []

theorem fit_of {pre : List (List Nat)} {tab : List (Nat × Nat)} {D Z : List Nat} {size : Nat} (h : regOk ops pre tab D Z size = true) {i : Nat} {o : Oper} (hi : ops[i]? = some o) (hid : i ∉ D) : Fit ops pre tab D Z size i o := by
  unfold regOk at h
  rw [Bool.and_eq_true] at h
  have hlt : i < ops.size := (Array.getElem?_eq_some_iff.1 hi).1
  have h1 := List.all_eq_true.1 h.1 i (List.mem_range.2 hlt)
  rw [hi] at h1
  simp only [List.contains_eq_mem, hid, decide_false, Bool.false_or] at h1
  simp only [opOk, Bool.and_eq_true] at h1
  obtain ⟨⟨⟨⟨⟨⟨g1, g2⟩, g3⟩, g4⟩, g5⟩, g6⟩, g7⟩ := h1
  refine ⟨?_, ?_, ?_, ?_, ?_, ?_, ?_, ?_⟩
  · cases hg : o.guard with
    | none => rfl
    | some x => rw [hg] at g1; cases g1
  · intro cs b hs; rw [hs] at g2; cases g2
  · intro e he hb
    have := List.all_eq_true.1 g3 e (by simpa using he)
    simpa [hb] using this
  · intro k hk
    have := List.all_eq_true.1 g4 k hk
    simp only [Bool.and_eq_true] at this
    simpa using this.1
  · intro k hk
    have := List.all_eq_true.1 g4 k hk
    simp only [Bool.and_eq_true] at this
    obtain ⟨e, he, hb⟩ := List.any_eq_true.1 this.2
    simp only [Bool.and_eq_true, Bool.or_eq_true, beq_iff_eq, Bool.not_eq_true', List.contains_eq_mem, decide_eq_false_iff_not, decide_eq_true_eq] at hb
    exact ⟨e, by simpa using he, hb.1, hb.2⟩
  · intro t ht k hk
    have := List.all_eq_true.1 g5 _ (by simpa using ht)
    simpa [hk] using this
  · intro d hd
    rw [hd] at g6
    simpa using g6
  · intro hz k hk hkd hkz
    simp only [Bool.or_eq_true, Bool.not_eq_true', List.contains_eq_mem, decide_eq_false_iff_not, hz, not_true_eq_false, false_or] at g7
    have := List.all_eq_true.1 g7 k (List.mem_range.2 hk)
    simpa [hkz, hkd] using this

theorem tab_of {pre : List (List Nat)} {tab : List (Nat × Nat)} {D Z : List Nat} {size : Nat} (h : regOk ops pre tab D Z size = true) {t k : Nat} (hk : tab.lookup t = some k) : (ops[k]?).bind (·.dst) = some t := by
  unfold regOk at h
  rw [Bool.and_eq_true] at h
  have := List.all_eq_true.1 h.2 _ (lookup_mem hk)
  simp only [Bool.and_eq_true, beq_iff_eq] at this
  exact this.1
theorem tab_nd {pre : List (List Nat)} {tab : List (Nat × Nat)} {D Z : List Nat} {size : Nat} (h : regOk ops pre tab D Z size = true) {t k : Nat} (hk : tab.lookup t = some k) : k ∉ D := by
  unfold regOk at h
  rw [Bool.and_eq_true] at h
  have := List.all_eq_true.1 h.2 _ (lookup_mem hk)
  simp only [Bool.and_eq_true] at this
  simpa using this.2

section main
variable (pre : List (List Nat)) (tab : List (Nat × Nat)) (D Z : List Nat) (a0 : Act) (w0 : World) (R : Nat → (Nat → Value) → World → Prop)

structure Inv (ops : Array Oper) (listed : Array Bool) (a : Act) (w : World) (vs : Nat → Value) : Prop where
  size : listed.size = ops.size
  done : ∀ d ∈ D, listed.getD d false = true
  z : ∀ i ∈ Z, listed.getD i true = false
  down : ∀ i k, i ∉ D → listed.getD i false = true → k ∈ pre.getD i [] → listed.getD k false = true
  defers : a.defers = a0.defers
  tsize : a.tmps.size = a0.tmps.size
  below : Below w0.heap.size w0 w
  rel : ∀ i, i ∉ D → listed.getD i false = true → R i vs w
  val : ∀ t, a.tmps.getD t undef = match tab.lookup t with | some k => if listed.getD k false = true then vs k else a0.tmps.getD t undef | none => a0.tmps.getD t undef

variable {pre tab D Z a0 w0 R}

theorem getD_ff {listed : Array Bool} {i : Nat} (h : listed.getD i true = false) : listed.getD i false = false := by
  rcases Nat.lt_or_ge i listed.size with h' | h'
  · simp [h'] at h ⊢; exact h
  · simp [Array.getElem?_eq_none h']

theorem getD_set_self {listed : Array Bool} {i : Nat} (h : i < listed.size) : (listed.setIfInBounds i true).getD i false = true := by simp [Array.getD, h]

theorem undone_set {i : Nat} {listed : Array Bool} (h0 : listed.getD i true = false) : undone (listed.setIfInBounds i true) + 1 = undone listed := by
  have hlt' : i < listed.size := by
    rcases Nat.lt_or_ge i listed.size with h' | h'
    · exact h'
    · simp [Array.getElem?_eq_none h'] at h0
  have h0' : listed.toList[i]'(by simpa using hlt') = false := by simpa [Array.getD, hlt'] using h0
  unfold undone
  rw [Array.toList_setIfInBounds, List.countP_set (p := (!·)) (l := listed.toList) (i := i) (a := true) (by simpa using hlt')]
  have hpos : 0 < listed.toList.countP (!·) := List.countP_pos_iff.2 ⟨_, List.getElem_mem (by simpa using hlt'), by simp [h0']⟩
  rw [h0']
  simp only [Bool.not_true, Bool.not_false, if_true, Bool.false_eq_true, if_false]
  omega

theorem undone_pos {i : Nat} {listed : Array Bool} (h0 : listed.getD i true = false) : 0 < undone listed := by
  have := undone_set h0; omega

theorem Inv.step {listed : Array Bool} {a : Act} {w : World} {vs : Nat → Value} {i : Nat}
    (hck : regOk ops pre tab D Z a0.tmps.size = true)
    (hst : ∀ i vs w w', R i vs w → Below w.heap.size w w' → R i vs w')
    (hcg : ∀ i vs vs' w, (∀ k, k = i ∨ k ∈ pre.getD i [] → vs' k = vs k) → R i vs w → R i vs' w)
    (hstep : ∀ i o vs w, ops[i]? = some o → i ∉ D → i ∉ Z → (∀ k ∈ pre.getD i [], k ∉ D → R k vs w) → Below w0.heap.size w0 w →
      Does P o (evT tab a0 vs) w fun v w' => R i (upd vs i v) w' ∧ Below w.heap.size w w')
    (hI : Inv pre tab D Z a0 w0 R ops listed a w vs) (hi : i ∈ Region.ready .any ops listed) (hz : i ∉ Z) :
    wpOp P ops Q i (fun a' w' => ∃ vs', Inv pre tab D Z a0 w0 R ops (listed.setIfInBounds i true) a' w' vs') a w := by
  obtain ⟨h0, o, ho, hall⟩ := mem_ready.1 hi
  have hid : i ∉ D := fun h => by have := hI.done i h; rw [getD_ff h0] at this; cases this
  have F := fit_of hck ho hid
  have hlt : i < ops.size := (Array.getElem?_eq_some_iff.1 ho).1
  have hpre : ∀ k ∈ pre.getD i [], listed.getD k false = true := by
    intro k hk
    obtain ⟨e, he, hb, hk'⟩ := F.prs k hk
    have hl := hall e he hb
    rcases hk' with rfl | hk'
    · exact hl
    · exact hI.down _ _ hk'.1 hl hk'.2
  have hev : execOp a.eval o = execOp (evT tab a0 vs) o := by
    refine execOp_congr o F.sel fun x hx => ?_
    cases x with
    | tmp t =>
      have hv := hI.val t
      simp only [Act.eval, evT]
      rw [hv]
      cases hl : tab.lookup t with
      | none => rfl
      | some k => simp only [hpre k (F.opd t hx k hl), if_true]
    | const v => rfl
    | global g => rfl
    | func f => rfl
  have key : ∀ v w', R i (upd vs i v) w' ∧ Below w.heap.size w w' → ∃ vs', Inv pre tab D Z a0 w0 R ops (listed.setIfInBounds i true) (a.put o.dst v) w' vs' := by
    rintro v w' ⟨hR, hB⟩
    have hne : ∀ k, listed.getD k false = true → k ≠ i := fun k hk e => by
      subst e; rw [getD_ff h0] at hk; cases hk
    refine ⟨upd vs i v, ?_, ?_, ?_, ?_, ?_, ?_, ?_, ?_, ?_⟩
    · simp [hI.size]
    · intro d hd; exact getD_set_true (hI.done d hd)
    · intro j hj
      rw [getD_set_ne true (fun e : i = j => hz (e ▸ hj))]; exact hI.z j hj
    · intro j k hjd hj hk
      rcases Nat.decEq j i with hji | hji
      · rw [getD_set_ne false (Ne.symm hji)] at hj
        exact getD_set_true (hI.down j k hjd hj hk)
      · subst hji; exact getD_set_true (hpre k hk)
    · cases o.dst <;> exact hI.defers
    · cases o.dst <;> simp [Act.put, hI.tsize]
    · exact hI.below.trans (hB.mono hI.below.size)
    · intro j hjd hj
      rcases Nat.decEq j i with hji | hji
      · rw [getD_set_ne false (Ne.symm hji)] at hj
        refine hcg j vs _ w' (fun k hk => ?_) (hst j vs w w' (hI.rel j hjd hj) hB)
        have hkl : listed.getD k false = true := by
          rcases hk with rfl | hk
          · exact hj
          · exact hI.down j k hjd hj hk
        simp [upd, hne k hkl]
      · subst hji; exact hR
    · intro t
      have hv := hI.val t
      cases hd : o.dst with
      | none =>
        simp only [Act.put]
        rw [hv]
        cases hl : tab.lookup t with
        | none => rfl
        | some k =>
          have hki : k ≠ i := fun e => by
            have := tab_of hck hl
            rw [e, ho] at this
            simp [hd] at this
          simp only [getD_set_ne false (Ne.symm hki), upd, hki, if_false]
      | some d =>
        obtain ⟨hds, hdl⟩ := F.dst d hd
        rcases Nat.decEq t d with htd | htd
        · simp only [Act.put]
          have : (a.tmps.setIfInBounds d v).getD t undef = a.tmps.getD t undef := by simp [Array.getD_eq_getD_getElem?, Array.getElem?_setIfInBounds_ne (Ne.symm htd)]
          rw [this, hv]
          cases hl : tab.lookup t with
          | none => rfl
          | some k =>
            have hki : k ≠ i := fun e => by
              have := tab_of hck hl
              rw [e, ho] at this
              simp [hd] at this
              exact htd this.symm
            simp only [getD_set_ne false (Ne.symm hki), upd, hki, if_false]
        · subst htd
          have h2 : (listed.setIfInBounds i true).getD i false = true := getD_set_self (by rw [hI.size]; exact hlt)
          simp only [Act.put, hdl, h2, if_true, upd]
          have : t < a.tmps.size := by rw [hI.tsize]; exact hds
          simp [this]
  unfold wpOp
  rw [ho]
  show if Region.wanted o (yielded ops a.tmps) = true then _ else _
  rw [if_pos (by simp [Region.wanted, F.guard])]
  refine .inl ?_
  have hs := hstep i o vs w ho hid hz (fun k hk hkd => hI.rel k hkd (hpre k hk)) hI.below
  unfold Oper.wp
  rw [hev]
  unfold Does at hs
  generalize (execOp (evT tab a0 vs) o).run P w = r at hs ⊢
  cases r with
  | ok n w' =>
    cases n <;> simp only [Oper.upon] at hs ⊢
    case value v => exact key v w' hs
    case skip => exact key undef w' hs
    case enter f args =>
      refine Calls.mono hs fun e w'' he => ?_
      obtain ⟨v, rfl, hk⟩ := he
      exact key v w'' hk
    case row row args => exact Rows.mono hs fun v w'' he => key v w'' he
    all_goals exact hs.elim
  | halt x w' => exact hs.elim

theorem exists_ready (hck : regOk ops pre tab D Z a0.tmps.size = true) {listed : Array Bool} (hs : listed.size = ops.size) (hdn : ∀ d ∈ D, listed.getD d false = true) (hr : Region.ready .any ops listed = []) : ∀ i, i < ops.size → listed.getD i false = true := by
  intro i
  induction i using Nat.strongRecOn with
  | _ i ih =>
    intro hi
    cases hl : listed.getD i false with
    | true => rfl
    | false =>
      obtain ⟨o, ho⟩ : ∃ o, ops[i]? = some o := ⟨_, Array.getElem?_eq_getElem hi⟩
      have F := fit_of hck ho (fun h => by have := hdn i h; rw [hl] at this; cases this)
      have : i ∈ Region.ready .any ops listed := mem_ready.2 ⟨by
        have : i < listed.size := by omega
        simp [this] at hl ⊢; exact hl, o, ho, fun e he hb => ih e.on (F.edge e he hb) (by have := F.edge e he hb; omega)⟩
      rw [hr] at this; cases this

theorem inv_any (hck : regOk ops pre tab D Z a0.tmps.size = true) (hS : ∀ w, Below w0.heap.size w0 w → S w)
    (hst : ∀ i vs w w', R i vs w → Below w.heap.size w w' → R i vs w')
    (hcg : ∀ i vs vs' w, (∀ k, k = i ∨ k ∈ pre.getD i [] → vs' k = vs k) → R i vs w → R i vs' w)
    (hstep : ∀ i o vs w, ops[i]? = some o → i ∉ D → i ∉ Z → (∀ k ∈ pre.getD i [], k ∉ D → R k vs w) → Below w0.heap.size w0 w →
      Does P o (evT tab a0 vs) w fun v w' => R i (upd vs i v) w' ∧ Below w.heap.size w w')
    (hfin : ∀ listed a w vs, Inv pre tab D Z a0 w0 R ops listed a w vs → (∀ i, i < ops.size → i ∉ Z → listed.getD i false = true) → ∀ fuel, undone listed ≤ fuel → AnyG P .any ops Q S G fuel listed a w) :
    ∀ (fuel : Nat) (listed : Array Bool) (a : Act) (w : World) (vs : Nat → Value), undone listed ≤ fuel → Inv pre tab D Z a0 w0 R ops listed a w vs → AnyG P .any ops Q S G fuel listed a w := by
  intro fuel
  induction fuel with
  | zero =>
    intro listed a w vs hu hI
    refine hfin listed a w vs hI (fun i hi _ => ?_) 0 hu
    cases hl : listed.getD i false with
    | true => rfl
    | false =>
      have : 0 < undone listed := undone_pos (i := i) (by
        have : i < listed.size := by rw [hI.size]; exact hi
        simp [this] at hl ⊢; exact hl)
      omega
  | succ fuel ih =>
    intro listed a w vs hu hI
    by_cases hall : ∀ i, i < ops.size → i ∉ Z → listed.getD i false = true
    · exact hfin listed a w vs hI hall _ hu
    · refine ⟨fun hr => absurd (fun i hi _ => exists_ready hck hI.size hI.done hr i hi) hall, fun i hi => ?_⟩
      have hz : i ∉ Z := fun hz => hall fun k hk hkz => by
        obtain ⟨h0, o, ho, he⟩ := mem_ready.1 hi
        rcases Classical.em (k ∈ D) with hkd | hkd
        · exact hI.done k hkd
        have F := fit_of hck ho (fun h => by have := hI.done i h; rw [getD_ff h0] at this; cases this)
        obtain ⟨e, he', hb, hk'⟩ := F.prs k (F.last hz k hk hkd hkz)
        have hl := he e he' hb
        rcases hk' with rfl | hk'
        · exact hl
        · exact hI.down _ _ hk'.1 hl hk'.2
      refine wpOp_mono (fun a' w' h => ?_) (Inv.step hck hst hcg hstep hI hi hz)
      obtain ⟨vs', h'⟩ := h
      have h0 := (mem_ready.1 hi).1
      exact ⟨fun _ => hS w' h'.below, ih _ a' w' vs' (by have := undone_set h0; omega) h'⟩

theorem any_chain (hck : regOk ops pre tab D Z a0.tmps.size = true) : ∀ (Zs : List Nat) (listed : Array Bool) (a : Act) (w : World), listed.size = ops.size → (∀ z ∈ Zs, G z = false) →
    (∀ d ∈ D, listed.getD d false = true) → (∀ i, i < ops.size → (listed.getD i false = true ↔ i ∉ Zs)) → (∀ i k, i ∉ D → listed.getD i false = true → k ∈ pre.getD i [] → listed.getD k false = true) →
    Zs.Pairwise (fun x y => x ∈ pre.getD y [] ∧ x ≠ y) → (∀ z ∈ Zs, z < ops.size) → wpOps P ops Q Zs a w → ∀ fuel, undone listed ≤ fuel → AnyG P .any ops Q S G fuel listed a w := by
  have tf : ∀ (listed : Array Bool) i, listed.size = ops.size → i < ops.size → listed.getD i false = false → listed.getD i true = false := fun listed i hs hi h => by
    have : i < listed.size := by omega
    simp [this] at h ⊢; exact h
  intro Zs
  induction Zs with
  | nil =>
    intro listed a w hs _ hdn hl hd _ _ hw fuel hu
    have hr : Region.ready .any ops listed = [] := by
      rcases hc : Region.ready .any ops listed with _ | ⟨i, rest⟩
      · rfl
      · obtain ⟨h0, o, ho, _⟩ := mem_ready.1 (show i ∈ Region.ready .any ops listed by rw [hc]; simp)
        have hlt : i < ops.size := (Array.getElem?_eq_some_iff.1 ho).1
        have := (hl i hlt).2 (by simp)
        rw [getD_ff h0] at this; cases this
    exact AnyG.done hr hw fuel
  | cons z rest ih =>
    intro listed a w hs hG hdn hl hd hch hlt hw fuel hu
    have hzl := hlt z (by simp)
    have hzf : listed.getD z false = false := by
      cases h : listed.getD z false with
      | false => rfl
      | true => exact absurd ((hl z hzl).1 h) (by simp)
    have hz0 := tf listed z hs hzl hzf
    cases fuel with
    | zero => have := undone_pos hz0; omega
    | succ fuel =>
      rw [List.pairwise_cons] at hch
      refine ⟨fun hr => ?_, fun i hi => ?_⟩
      · have := exists_ready hck hs hdn hr z hzl
        rw [hzf] at this; cases this
      · obtain ⟨h0, o, ho, hall⟩ := mem_ready.1 hi
        have hid : i ∉ D := fun h => by have := hdn i h; rw [getD_ff h0] at this; cases this
        have F := fit_of hck ho hid
        have hil : i < ops.size := (Array.getElem?_eq_some_iff.1 ho).1
        have hmem : i ∈ z :: rest := by
          rcases Classical.em (i ∈ z :: rest) with h | h
          · exact h
          · have := (hl i hil).2 h
            rw [getD_ff h0] at this; cases this
        have hiz : i = z := by
          rcases List.mem_cons.1 hmem with h | h
          · exact h
          · obtain ⟨e, he, hb, hk⟩ := F.prs z (hch.1 i h).1
            have hle := hall e he hb
            rcases hk with hk | hk
            · rw [hk] at hle; rw [hzf] at hle; cases hle
            · have := hd _ _ hk.1 hle hk.2
              rw [hzf] at this; cases this
        subst hiz
        rw [wpOps_cons] at hw
        refine wpOp_mono (fun a' w' h => ⟨fun hg => absurd ((hG i (by simp)).symm.trans hg) (by simp), ?_⟩) hw
        refine ih (listed.setIfInBounds i true) a' w' (by simp [hs]) (fun y hy => hG y (List.mem_cons_of_mem _ hy)) (fun d h => getD_set_true (hdn d h)) (fun j hj => ?_) (fun j k hjd hj hk => ?_) hch.2 (fun y hy => hlt y (List.mem_cons_of_mem _ hy)) h fuel (by have := undone_set hz0; omega)
        · rcases Nat.decEq j i with hji | hji
          · rw [getD_set_ne false (Ne.symm hji), hl j hj]
            simp [hji]
          · subst hji
            have h1 : (listed.setIfInBounds j true).getD j false = true := getD_set_self (by omega)
            have h2 : j ∉ rest := fun hm => (hch.1 j hm).2 rfl
            simp [h2]; simpa using h1
        · rcases Nat.decEq j i with hji | hji
          · rw [getD_set_ne false (Ne.symm hji)] at hj
            exact getD_set_true (hd j k hjd hj hk)
          · subst hji
            obtain ⟨e, he, hb, hk'⟩ := F.prs k hk
            have hle := hall e he hb
            rcases hk' with rfl | hk'
            · exact getD_set_true hle
            · exact getD_set_true (hd _ _ hk'.1 hle hk'.2)
/-- The temporaries behind the operations of a region. -/
def fillT (tab : List (Nat × Nat)) (vs : Nat → Value) (tmps : Array Value) : Array Value := tab.foldl (fun t p => t.setIfInBounds p.1 (vs p.2)) tmps
theorem fillT_size (tab : List (Nat × Nat)) (vs : Nat → Value) (tmps : Array Value) : (fillT tab vs tmps).size = tmps.size := by
  unfold fillT
  induction tab generalizing tmps with
  | nil => rfl
  | cons p r ih => simp only [List.foldl_cons]; rw [ih]; simp
theorem fillT_get (vs : Nat → Value) (t : Nat) : ∀ (tab : List (Nat × Nat)) (tmps : Array Value), tab.Pairwise (fun x y => x.1 ≠ y.1) → t < tmps.size →
    (fillT tab vs tmps).getD t undef = match tab.lookup t with | some k => vs k | none => tmps.getD t undef := by
  intro tab
  induction tab with
  | nil => intro tmps _ _; rfl
  | cons p r ih =>
    intro tmps hp ht
    obtain ⟨d, k⟩ := p
    rw [List.pairwise_cons] at hp
    have h1 := ih (tmps.setIfInBounds d (vs k)) hp.2 (by simpa using ht)
    have h2 : fillT ((d, k) :: r) vs tmps = fillT r vs (tmps.setIfInBounds d (vs k)) := rfl
    rw [h2, h1, List.lookup_cons]
    by_cases e : t = d
    · subst e
      have hn : r.lookup t = none := by
        cases hl : r.lookup t with
        | none => rfl
        | some k' => exact absurd rfl (hp.1 (t, k') (lookup_mem hl))
      simp [hn, ht]
    · have : (t == d) = false := by simpa using e
      rw [this]
      cases r.lookup t with
      | some k' => rfl
      | none => simp [Array.getD_eq_getD_getElem?, Array.getElem?_setIfInBounds_ne (Ne.symm e)]

theorem lookup_filter (t : Nat) (q : Nat × Nat → Bool) : ∀ (tab : List (Nat × Nat)), tab.Pairwise (fun x y => x.1 ≠ y.1) →
    (tab.filter q).lookup t = match tab.lookup t with | some k => if q (t, k) = true then some k else none | none => none := by
  intro tab
  induction tab with
  | nil => intro _; rfl
  | cons p r ih =>
    intro hp
    obtain ⟨d, k⟩ := p
    rw [List.pairwise_cons] at hp
    rw [List.filter_cons, List.lookup_cons]
    by_cases e : t = d
    · subst e
      have hn : r.lookup t = none := by
        cases hl : r.lookup t with
        | none => rfl
        | some k' => exact absurd rfl (hp.1 (t, k') (lookup_mem hl))
      cases hq : q (t, k)
      · simp only [Bool.false_eq_true, if_false, ih hp.2, hn, beq_self_eq_true, hq]
      · simp [hq]
    · have hb : (t == d) = false := by simpa using e
      rw [hb]
      cases hq : q (d, k)
      · simp only [Bool.false_eq_true, if_false, ih hp.2]
      · simp only [if_true, List.lookup_cons, hb, ih hp.2]

/-- What a list of relations, one an operation, says. -/
def relOf (L : List (Nat × ((Nat → Value) → World → Prop))) : Nat → (Nat → Value) → World → Prop := fun i vs w => match L.lookup i with | some p => p vs w | none => True
theorem lookupR_mem {L : List (Nat × ((Nat → Value) → World → Prop))} {i : Nat} {p : (Nat → Value) → World → Prop} (h : L.lookup i = some p) : (i, p) ∈ L := by
  induction L with
  | nil => simp at h
  | cons q r ih =>
    obtain ⟨a, b⟩ := q
    simp only [List.lookup_cons] at h
    by_cases e : i = a
    · subst e; simp at h; simp [h]
    · have : (i == a) = false := by simpa using e
      rw [this] at h
      exact List.mem_cons_of_mem _ (ih h)

/-- A region that draws its order, some operations (D) carried out: one relation for each of the others but the last ones (Z), which come behind all others in their order. -/
theorem any_rel {w : World} {a : Act} {listed : Array Bool} {fuel : Nat} (D Z : List Nat) (pre : List (List Nat)) (tab : List (Nat × Nat)) (L : List (Nat × ((Nat → Value) → World → Prop)))
    (hck : regOk ops pre tab D Z a.tmps.size = true)
    (hck2 : ((List.range ops.size).all (fun i => listed.getD i false == D.contains i && (D.contains i || Z.contains i || (L.lookup i).isSome)) && listed.size == ops.size && decide (undone listed ≤ fuel) && (D ++ Z).all (fun z => decide (z < ops.size) && (!Z.contains z || (!G z && !D.contains z)))) = true)
    (hch : Z.Pairwise (fun x y => x ∈ pre.getD y [] ∧ x ≠ y)) (hnd : tab.Pairwise (fun x y => x.1 ≠ y.1)) (hS : ∀ w', Below w.heap.size w w' → S w')
    (hst : ∀ p ∈ L, ∀ vs w1 w2, p.2 vs w1 → Below w1.heap.size w1 w2 → p.2 vs w2)
    (hcg : ∀ p ∈ L, ∀ vs vs' w1, (∀ k, k = p.1 ∨ k ∈ pre.getD p.1 [] → vs' k = vs k) → p.2 vs w1 → p.2 vs' w1)
    (hstep : ∀ p ∈ L, ∀ o, ops[p.1]? = some o → ∀ vs w1, (∀ q ∈ L, q.1 ∈ pre.getD p.1 [] → L.lookup q.1 = some q.2 → q.2 vs w1) → Below w.heap.size w w1 →
      Does P o (evT tab a vs) w1 fun v w2 => p.2 (upd vs p.1 v) w2 ∧ Below w1.heap.size w1 w2)
    (hfin : ∀ vs w1, (∀ p ∈ L, p.1 ∉ D → p.1 ∉ Z → p.1 < ops.size → L.lookup p.1 = some p.2 → p.2 vs w1) → Below w.heap.size w w1 →
      wpOps P ops Q Z { tmps := fillT (tab.filter fun p => !Z.contains p.2) vs a.tmps, defers := a.defers } w1) : AnyG P .any ops Q S G fuel listed a w := by
  simp only [Bool.and_eq_true, List.all_eq_true, List.mem_range, beq_iff_eq, decide_eq_true_eq] at hck2
  obtain ⟨⟨⟨c1, c2⟩, c3⟩, c4⟩ := hck2
  have hD : ∀ i, i < ops.size → (listed.getD i false = true ↔ i ∈ D) := fun i hi => by rw [(c1 i hi).1]; simp
  have hzl : ∀ z ∈ Z, z < ops.size := fun z hz => (c4 z (by simp [hz])).1
  have hdl : ∀ z ∈ D, z < ops.size := fun z hz => (c4 z (by simp [hz])).1
  have hzg : ∀ z ∈ Z, G z = false ∧ z ∉ D := fun z hz => by
    have := (c4 z (by simp [hz])).2
    simpa [hz] using this
  refine inv_any (pre := pre) (tab := tab) (D := D) (Z := Z) (a0 := a) (w0 := w) (R := relOf L) hck hS ?_ ?_ ?_ (fun listed a' w' vs hI hall fuel hu => ?_) _ _ _ _ (fun _ => undef) c3 ?_
  · intro i vs w1 w2 h hb
    unfold relOf at h ⊢
    cases hl : L.lookup i with
    | none => trivial
    | some p => rw [hl] at h; exact hst _ (lookupR_mem hl) vs w1 w2 h hb
  · intro i vs vs' w1 hk h
    unfold relOf at h ⊢
    cases hl : L.lookup i with
    | none => trivial
    | some p => rw [hl] at h; exact hcg _ (lookupR_mem hl) vs vs' w1 hk h
  · intro i o vs w1 ho hid hiz hpre hb
    have hlt : i < ops.size := (Array.getElem?_eq_some_iff.1 ho).1
    have h1 := (c1 i hlt).2
    cases hl : L.lookup i with
    | none => simp [hl, hid, hiz] at h1
    | some p =>
      have := hstep _ (lookupR_mem hl) o ho vs w1 (fun q hq hqp hql => ?_) hb
      · unfold relOf; simp only [hl]; exact this
      · rcases Classical.em (q.1 ∈ D) with hqd | hqd
        · exact absurd hqd ((fit_of hck ho hid).nd _ hqp)
        · have := hpre q.1 hqp hqd
          unfold relOf at this; rw [hql] at this; exact this
  · have hl : ∀ i, i < ops.size → (listed.getD i false = true ↔ i ∉ Z) := fun i hi => ⟨fun h hz => (by
      rw [getD_ff (hI.z i hz)] at h; exact absurd h (by simp)), fun hz => hall i hi hz⟩
    have ha : a' = { tmps := fillT (tab.filter fun p => !Z.contains p.2) vs a.tmps, defers := a.defers } := by
      have ht : a'.tmps = fillT (tab.filter fun p => !Z.contains p.2) vs a.tmps := by
        apply Array.ext
        · rw [fillT_size, hI.tsize]
        · intro t h1 h2
          have hts : t < a.tmps.size := by rw [← hI.tsize]; exact h1
          have e1 : a'.tmps[t] = a'.tmps.getD t undef := by simp [h1]
          have e2 : (fillT (tab.filter fun p => !Z.contains p.2) vs a.tmps)[t] = (fillT (tab.filter fun p => !Z.contains p.2) vs a.tmps).getD t undef := by
            rw [Array.getD_eq_getD_getElem?, Array.getElem?_eq_getElem h2]; rfl
          rw [e1, e2, hI.val t, fillT_get vs t _ _ (hnd.filter _) hts]
          rw [lookup_filter t _ tab hnd]
          cases hl' : tab.lookup t with
          | none => rfl
          | some k =>
            have hk := tab_of hck hl'
            have hks : k < ops.size := by
              cases ho : ops[k]? with
              | none => rw [ho] at hk; simp at hk
              | some o => exact (Array.getElem?_eq_some_iff.1 ho).1
            by_cases hz : k ∈ Z
            · have hq : (!Z.contains k) = false := by simp [hz]
              show (if listed.getD k false = true then vs k else a.tmps.getD t undef) = (match (if (!Z.contains k) = true then some k else none) with | some k => vs k | none => a.tmps.getD t undef)
              rw [if_neg (fun h => (hl k hks).1 h hz), hq]
              rfl
            · have hq : (!Z.contains k) = true := by simp [hz]
              show (if listed.getD k false = true then vs k else a.tmps.getD t undef) = (match (if (!Z.contains k) = true then some k else none) with | some k => vs k | none => a.tmps.getD t undef)
              rw [if_pos ((hl k hks).2 hz), hq]
              rfl
      have hd := hI.defers
      cases a'; simp only at ht hd; rw [ht, hd]
    refine any_chain hck Z listed a' w' hI.size (fun z hz => (hzg z hz).1) hI.done hl hI.down hch hzl ?_ fuel hu
    rw [ha]
    exact hfin vs w' (fun p _ hpd hpz hp hpl => by
      have := hI.rel p.1 hpd (hall p.1 hp hpz)
      unfold relOf at this; rw [hpl] at this; exact this) hI.below
  · refine ⟨c2, fun d hd => (hD d (hdl d hd)).2 hd, fun z hz => ?_, fun i k hid h => ?_, rfl, rfl, Below.refl _ _, fun i hid h => ?_, fun t => ?_⟩
    · have h1 := (not_congr (hD z (hzl z hz))).2 (hzg z hz).2
      have h2 : z < listed.size := by rw [c2]; exact hzl z hz
      simp [h2] at h1 ⊢; exact h1
    · rcases Nat.lt_or_ge i ops.size with hi | hi
      · exact absurd ((hD i hi).1 h) hid
      · simp [Array.getElem?_eq_none (show listed.size ≤ i by omega)] at h
    · rcases Nat.lt_or_ge i ops.size with hi | hi
      · exact absurd ((hD i hi).1 h) hid
      · simp [Array.getElem?_eq_none (show listed.size ≤ i by omega)] at h
    · cases hl' : tab.lookup t with
      | none => rfl
      | some k =>
        have hk := tab_of hck hl'
        have hks : k < ops.size := by
          cases ho : ops[k]? with
          | none => rw [ho] at hk; simp at hk
          | some o => exact (Array.getElem?_eq_some_iff.1 ho).1
        have hkd := tab_nd hck hl'
        have h1 := (not_congr (hD k hks)).2 hkd
        show _ = if listed.getD k false = true then _ else _
        rw [if_neg h1]
end main
end
end Go.Proofs.YtdlohfglmagneaaDoor.RegRel
