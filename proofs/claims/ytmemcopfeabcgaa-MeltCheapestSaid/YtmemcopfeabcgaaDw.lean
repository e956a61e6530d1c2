/- Regions that draw their order: what is held need not be shown behind what waits for all that is read. -/
import Derived.Test.YtmemcopfeabcgaaR2
import Derived.Test.YtmemcopfeabcgaaR3
import Derived.Deep.CutBlock
set_option linter.unusedSimpArgs false
set_option linter.unusedVariables false
namespace Go.Proofs.Ytmemcopfeabcgaa
open Go Go.RowKit
section
section
variable {P : Program} {ops : Array Oper} {Q : Exit → Act → World → Prop} {md : Region.Mode} {S : World → Prop} {G : Nat → Bool}
/-- j waits for i, perhaps by others. -/
inductive Desc (md : Region.Mode) (ops : Array Oper) (i : Nat) : Nat → Prop
  | base {j : Nat} {o : Oper} (ho : ops[j]? = some o) (h : ∃ e ∈ o.after, Region.binds md e = true ∧ e.on = i) : Desc md ops i j
  | step {j k : Nat} {o : Oper} (ho : ops[j]? = some o) (h : ∃ e ∈ o.after, Region.binds md e = true ∧ e.on = k) (hk : Desc md ops i k) : Desc md ops i j
def descs (md : Region.Mode) (ops : Array Oper) (i : Nat) : List Nat :=
  (List.range ops.size).foldl (fun D j => if ((ops[j]?).map (·.after.any fun e => Region.binds md e && D.contains e.on)).getD false then j :: D else D) [i]
theorem descs_ok {i : Nat} : ∀ k ∈ descs md ops i, k = i ∨ Desc md ops i k := by
  unfold descs
  have key : ∀ (l D : List Nat), (∀ k ∈ D, k = i ∨ Desc md ops i k) → ∀ k ∈ l.foldl (fun D j => if ((ops[j]?).map (·.after.any fun e => Region.binds md e && D.contains e.on)).getD false then j :: D else D) D, k = i ∨ Desc md ops i k := by
    intro l
    induction l with
    | nil => intro D h k hk; exact h k hk
    | cons j l ih =>
      intro D h
      rw [List.foldl_cons]
      refine ih _ fun k hk => ?_
      split at hk
      · rename_i hc
        rcases List.mem_cons.1 hk with rfl | hk
        · cases ho : ops[k]? with
          | none => rw [ho] at hc; simp at hc
          | some o =>
            rw [ho] at hc
            simp only [Option.map_some, Option.getD_some] at hc
            obtain ⟨e, he, hb⟩ := Array.any_eq_true'.1 hc
            simp only [Bool.and_eq_true, List.contains_eq_mem, decide_eq_true_eq] at hb
            rcases h _ hb.2 with h0 | h0
            · exact .inr (.base ho ⟨e, he, hb.1, h0⟩)
            · exact .inr (.step ho ⟨e, he, hb.1, rfl⟩ h0)
        · exact h k hk
      · exact h k hk
  exact key _ _ (by simp)
/-- Whatever has come up, what it waits for has. -/
def Closed (md : Region.Mode) (ops : Array Oper) (listed : Array Bool) : Prop :=
  ∀ k, listed.getD k false = true → ∀ o, ops[k]? = some o → ∀ e ∈ o.after, Region.binds md e = true → listed.getD e.on false = true
def closedB (md : Region.Mode) (ops : Array Oper) (listed : Array Bool) : Bool :=
  (List.range ops.size).all fun k => !listed.getD k false || ((ops[k]?).map (·.after.all fun e => !Region.binds md e || listed.getD e.on false)).getD true
theorem closedB_ok {listed : Array Bool} (h : closedB md ops listed = true) : Closed md ops listed := by
  intro k hk o ho e he hb
  have hlt : k < ops.size := (Array.getElem?_eq_some_iff.1 ho).1
  have h1 := List.all_eq_true.1 h k (List.mem_range.2 hlt)
  rw [hk, ho] at h1
  simp only [Bool.not_true, Bool.false_or, Option.map_some, Option.getD_some] at h1
  have h2 := Array.all_eq_true'.1 h1 e he
  rw [hb] at h2
  simpa using h2
theorem Desc.no {listed : Array Bool} {i j : Nat} (hc : Closed md ops listed) (hi : listed.getD i false = false) (h : Desc md ops i j) : ∀ o, ops[j]? = some o → ¬ ∀ e ∈ o.after, Region.binds md e = true → listed.getD e.on false = true := by
  induction h with
  | base ho h =>
    intro o ho' hall
    rw [ho] at ho'
    cases ho'
    obtain ⟨e, he, hb, rfl⟩ := h
    rw [hall e he hb] at hi
    cases hi
  | step ho h hk ih =>
    intro o ho' hall
    rw [ho] at ho'
    cases ho'
    obtain ⟨e, he, hb, rfl⟩ := h
    have hl := hall e he hb
    cases hk with
    | base ho2 _ => exact ih _ ho2 fun e' he' hb' => hc _ hl _ ho2 e' he' hb'
    | step ho2 _ _ => exact ih _ ho2 fun e' he' hb' => hc _ hl _ ho2 e' he' hb'
theorem getD_set_mono {listed : Array Bool} {j k : Nat} (h : listed.getD k false = true) : (listed.setIfInBounds j true).getD k false = true := by
  by_cases hjk : j = k
  · subst hjk
    rcases Nat.lt_or_ge j listed.size with h' | h'
    · simp [Array.getD_eq_getD_getElem?, h']
    · simp [Array.getD_eq_getD_getElem?, Array.getElem?_eq_none h'] at h
  · rw [getD_set_ne false hjk]; exact h
theorem Closed.step {listed : Array Bool} (hc : Closed md ops listed) {j : Nat} (hj : j ∈ Region.ready md ops listed) : Closed md ops (listed.setIfInBounds j true) := by
  obtain ⟨_, oj, hoj, hall⟩ := mem_ready.1 hj
  intro k hk o ho e he hb
  by_cases hjk : j = k
  · subst hjk
    rw [hoj] at ho
    cases ho
    exact getD_set_mono (hall e he hb)
  · rw [getD_set_ne false hjk] at hk
    exact getD_set_mono (hc k hk o ho e he hb)
/-- Every operation that is still to come and that G doesn't name waits for number i. -/
def waitsC (md : Region.Mode) (ops : Array Oper) (G : Nat → Bool) (listed : Array Bool) (i : Nat) : Bool :=
  (List.range ops.size).all fun j => listed.getD j true || G j || j == i || (descs md ops i).contains j
theorem waitsC_ok {i : Nat} {listed : Array Bool} (h : waitsC md ops G listed i = true) : ∀ j, j < ops.size → listed.getD j true = false → j ≠ i → G j = true ∨ Desc md ops i j := by
  intro j hlt hun hne
  have h1 := List.all_eq_true.1 h j (List.mem_range.2 hlt)
  rw [hun] at h1
  simp only [Bool.false_or, Bool.or_eq_true, beq_iff_eq, hne, or_false, List.contains_eq_mem, decide_eq_true_eq] at h1
  rcases h1 with h1 | h1
  · exact .inl h1
  · rcases descs_ok _ h1 with h2 | h2
    · exact absurd h2 hne
    · exact .inr h2
theorem AnyG.firstC {i : Nat} {oi : Oper} {v : Value} (hi : ops[i]? = some oi) (hsel : Region.noSelect ops = true) 
    (hQ : ∀ c a w, Q (.panic c) (a.put oi.dst v) w → Q (.panic c) a w) :
    ∀ (fuel : Nat) (listed : Array Bool) (a : Act) (w : World), Closed md ops listed → (∀ j, j < ops.size → listed.getD j true = false → j ≠ i → G j = true ∨ Desc md ops i j) →
      (∀ j oj, ops[j]? = some oj → j ≠ i → listed.getD j true = false → (∀ e ∈ oj.after, Region.binds md e = true → e.on ≠ i) → oi.apart ops oj = true) →
      i ∈ Region.ready md ops listed → YieldsIf P ops S oi v a → S w →
      AnyG P md ops Q S G fuel (listed.setIfInBounds i true) (a.put oi.dst v) w → AnyG P md ops Q S G (fuel + 1) listed a w := by
  intro fuel
  induction fuel with
  | zero =>
    intro listed a w _ _ _ hr hy hS H
    refine ⟨fun h => (by rw [h] at hr; cases hr), fun j hj => ?_⟩
    rcases Nat.decEq j i with hji | hji
    · have hl := ready_mono hj hji
      rw [H.1] at hl
      cases hl
    · subst hji
      exact hy.wpOp hi hS ⟨fun _ => hS, H⟩
  | succ fuel ih =>
    intro listed a w hc hw hfree hr hy hS H
    refine ⟨fun h => (by rw [h] at hr; cases hr), fun j hj => ?_⟩
    rcases Nat.decEq j i with hji | hji
    · obtain ⟨hjun, oj, hoj, hall⟩ := mem_ready.1 hj
      have hiun : listed.getD i false = false := by
        have h0 := (mem_ready.1 hr).1
        rcases Nat.lt_or_ge i listed.size with h' | h'
        · simp [h'] at h0 ⊢; exact h0
        · simp [Array.getElem?_eq_none h']
      have hjun' : listed.getD j true = false := hjun
      have hG : G j = true := (hw j (Array.getElem?_eq_some_iff.1 hoj).1 hjun' hji).resolve_right fun hd => hd.no hc hiun _ hoj hall
      have hnot : ∀ e ∈ oj.after, Region.binds md e = true → e.on ≠ i := fun e he hb heq => by
        have h2 := hall e he hb
        rw [heq, hiun] at h2
        cases h2
      have h2 := wpOp_putIf hoj (hfree j oj hoj hji hjun hnot) (fun cs b => Region.noSelect_spec hsel i oi cs b hi) (fun cs b => Region.noSelect_spec hsel j oj cs b hoj) hQ hy (H.2 j (ready_mono hj hji))
      refine wpOp_mono (fun a' w' h3 => ⟨h3.2.1, ih (listed.setIfInBounds j true) a' w' (hc.step hj) ?_ ?_ (ready_mono hr (Ne.symm hji)) h3.1 (h3.2.1 hG) ?_⟩) h2
      · intro k hk hun hki
        refine hw k hk ?_ hki
        rcases Nat.decEq j k with hjk | hjk
        · rw [getD_set_ne true hjk] at hun; exact hun
        · subst hjk; exact hjun
      · intro k ok hk hki hun hno
        refine hfree k ok hk hki ?_ hno
        rcases Nat.decEq j k with hjk | hjk
        · rw [getD_set_ne true hjk] at hun; exact hun
        · subst hjk; exact hjun
      · rw [Array.setIfInBounds_comm _ _ hji]
        exact h3.2.2
    · subst hji
      exact hy.wpOp hi hS ⟨fun _ => hS, H⟩
/-- Number i is taken first. -/
theorem AnyG.takeC {i : Nat} {oi : Oper} {v : Value} {fuel : Nat} {listed : Array Bool} {a : Act} {w : World} (hi : ops[i]? = some oi)
    (hs : (Region.noSelect ops && waitsC md ops G listed i && closedB md ops listed && Region.free md ops listed i && (Region.ready md ops listed).contains i) = true)
    (hQ : ∀ c a w, Q (.panic c) (a.put oi.dst v) w → Q (.panic c) a w) (hg : oi.guard = none) (hy : ∀ w, S w → (execOp a.eval oi).run P w = .ok (.value v) w) (hS : S w)
    (h : AnyG P md ops Q S G fuel (listed.setIfInBounds i true) (a.put oi.dst v) w) : AnyG P md ops Q S G (fuel + 1) listed a w := by
  simp only [Bool.and_eq_true] at hs
  obtain ⟨⟨⟨⟨h1, h2⟩, h5⟩, h3⟩, h4⟩ := hs
  exact AnyG.firstC hi h1 hQ fuel listed a w (closedB_ok h5) (waitsC_ok h2) (Region.free_spec hi h3) (by simpa using h4) (.inl ⟨by simp [Region.wanted, hg], hy⟩) hS h
theorem AnyG.takeGC {i : Nat} {oi : Oper} {v : Value} {fuel : Nat} {listed : Array Bool} {a : Act} {w : World} (hi : ops[i]? = some oi)
    (hs : (Region.noSelect ops && waitsC md ops G listed i && closedB md ops listed && Region.free md ops listed i && (Region.ready md ops listed).contains i) = true)
    (hQ : ∀ c a w, Q (.panic c) (a.put oi.dst v) w → Q (.panic c) a w) (hg : Region.wanted oi (yielded ops a.tmps) = true) (hy : ∀ w, S w → (execOp a.eval oi).run P w = .ok (.value v) w) (hS : S w)
    (h : AnyG P md ops Q S G fuel (listed.setIfInBounds i true) (a.put oi.dst v) w) : AnyG P md ops Q S G (fuel + 1) listed a w := by
  simp only [Bool.and_eq_true] at hs
  obtain ⟨⟨⟨⟨h1, h2⟩, h5⟩, h3⟩, h4⟩ := hs
  exact AnyG.firstC hi h1 hQ fuel listed a w (closedB_ok h5) (waitsC_ok h2) (Region.free_spec hi h3) (by simpa using h4) (.inl ⟨hg, hy⟩) hS h
theorem AnyG.takeNC {i : Nat} {oi : Oper} {fuel : Nat} {listed : Array Bool} {a : Act} {w : World} (hi : ops[i]? = some oi)
    (hs : (Region.noSelect ops && waitsC md ops G listed i && closedB md ops listed && Region.free md ops listed i && (Region.ready md ops listed).contains i) = true)
    (hQ : ∀ c a w, Q (.panic c) (a.put oi.dst undef) w → Q (.panic c) a w) (hg : Region.wanted oi (yielded ops a.tmps) = false) (hS : S w)
    (h : AnyG P md ops Q S G fuel (listed.setIfInBounds i true) (a.put oi.dst undef) w) : AnyG P md ops Q S G (fuel + 1) listed a w := by
  simp only [Bool.and_eq_true] at hs
  obtain ⟨⟨⟨⟨h1, h2⟩, h5⟩, h3⟩, h4⟩ := hs
  exact AnyG.firstC hi h1 hQ fuel listed a w (closedB_ok h5) (waitsC_ok h2) (Region.free_spec hi h3) (by simpa using h4) (.inr ⟨hg, rfl⟩) hS h
/-- The beginning: what needs no world may be taken before. -/
theorem AnyG.startC {id : Nat} {a : Act} {w : World} (hm : P.follows .mixedOrders = true) (h : wpAny P .any ops Q ops.size (Array.replicate ops.size false) a w.drew) : (Code.region id ops true).wp P Q a w := wp_region_any hm h
theorem AnyG.takeP {i : Nat} {oi : Oper} {v : Value} {fuel : Nat} {listed : Array Bool} {a : Act} {w : World} (hi : ops[i]? = some oi)
    (hs : (Region.noSelect ops && Region.free md ops listed i && (Region.ready md ops listed).contains i) = true)
    (hQ : ∀ c a w, Q (.panic c) (a.put oi.dst v) w → Q (.panic c) a w) (hg : oi.guard = none) (hy : ∀ w, (execOp a.eval oi).run P w = .ok (.value v) w)
    (h : wpAny P md ops Q fuel (listed.setIfInBounds i true) (a.put oi.dst v) w) : wpAny P md ops Q (fuel + 1) listed a w := by
  simp only [Bool.and_eq_true] at hs
  obtain ⟨⟨h1, h3⟩, h4⟩ := hs
  exact wpAny_first hi (Region.noSelect_spec h1) hQ fuel listed a w (Region.free_spec hi h3) (by simpa using h4) (.inl ⟨by simp [Region.wanted, hg], hy⟩) h
theorem AnyG.enter {fuel : Nat} {listed : Array Bool} {a : Act} {w : World} (S : World → Prop) (G : Nat → Bool) (h : AnyG P md ops Q S G fuel listed a w) : wpAny P md ops Q fuel listed a w := AnyG.any _ _ _ _ h
/-- The one operation that may come up is carried out (its guard lets it). -/
theorem AnyG.oneC {i : Nat} {o : Oper} {fuel : Nat} {listed : Array Bool} {a : Act} {w : World} (hr : Region.ready md ops listed = [i]) (ho : ops[i]? = some o) (hg : Region.wanted o (yielded ops a.tmps) = true)
    (h : o.wp P a w (Onward P md ops Q S G fuel i listed) Q) : AnyG P md ops Q S G (fuel + 1) listed a w := by
  refine ⟨fun h0 => absurd (hr.symm.trans h0) (by simp), fun j hj => ?_⟩
  rw [hr] at hj
  obtain rfl : j = i := by simpa using hj
  unfold wpOp
  rw [ho]
  show if Region.wanted o (yielded ops a.tmps) = true then _ else _
  rw [if_pos hg]
  exact .inl h
end
end
end Go.Proofs.Ytmemcopfeabcgaa
