/- Best: what holds from round to round. -/
import Derived.Test.YtdlohfglmagneaaDoorTc
import Derived.Test.YtdlohfglmagneaaDoorWrM
set_option linter.unusedSimpArgs false
set_option linter.unusedVariables false
namespace Go.Proofs.YtdlohfglmagneaaDoor
open Go Go.RowKit Go.Shelf
attribute [local go_sem] Oper.semAt_some
/-- A piece of code that goes on in the normal way only. -/
theorem drawOnly {P : Program} {c : Code} {K : Act → World → Prop} {Q : Exit → Act → World → Prop} {a : Act} {w : World} (h : c.wp P (Exit.then K (fun _ _ _ => False)) a w) : c.wp P (Exit.then K Q) a w :=
  Code.wp_mono (fun e a w h => by cases e <;> first | exact h | exact h.elim) h
/-- What a round leaves: other things lie as they lay but for two boxes. -/
structure K3 (base B b c : Nat) (X Y : World) : Prop where
  kf : KeepsFrom B X Y
  k2 : Keep2 b c X Y
  bl : Below base X Y
section
variable {base B b c : Nat} {X Y Z : World}
theorem K3.refl (base B b c : Nat) (X : World) : K3 base B b c X X := ⟨KeepsFrom.refl _ _, Keep2.refl _ _ _, Below.refl _ _⟩
theorem K3.trans (h : K3 base B b c X Y) (k : K3 base B b c Y Z) : K3 base B b c X Z := ⟨h.kf.trans k.kf, h.k2.trans k.k2, h.bl.trans k.bl⟩
theorem K3.call (h : K3 base B b c X Y) (hX : base ≤ X.heap.size) (k : Below Y.heap.size Y Z) : K3 base B b c X Z :=
  h.trans ⟨keepsFrom_below' k, Keep2.below k, k.mono (Nat.le_trans hX h.k2.size)⟩
theorem K3.drew (h : K3 base B b c X Y) : K3 base B b c X Y.drew := ⟨h.kf.trans ⟨Nat.le_refl _, fun _ _ _ e _ => e⟩, h.k2.drew, h.bl.drew⟩
theorem K3.set1 (h : K3 base B b c X Y) (h1 : base ≤ b) (h2 : b < B) (i : Nat) (v : Value) : K3 base B b c X (Y.setCell ⟨b, i, none⟩ v) :=
  h.trans ⟨⟨by simp [World.setCell], fun k o hk e _ => (Below.heap_setCell Y ⟨b, i, none⟩ v k (by simp; omega)).trans e⟩, Keep2.set1 Y i v, (Below.refl _ _).setCell (by simpa using h1) v⟩
theorem K3.set2 (h : K3 base B b c X Y) (h1 : base ≤ c) (h2 : c < B) (i : Nat) (v : Value) : K3 base B b c X (Y.setCell ⟨c, i, none⟩ v) :=
  h.trans ⟨⟨by simp [World.setCell], fun k o hk e _ => (Below.heap_setCell Y ⟨c, i, none⟩ v k (by simp; omega)).trans e⟩, Keep2.set2 Y i v, (Below.refl _ _).setCell (by simpa using h1) v⟩
end
def okB (v : Vg) (s : List Int) : Bool := roomOk v.hs (abd v.ls s) && lvlOk v (tiltP v.hs (abd v.ls s)) && passM v (abd v.ls s)
def woB (v : Vg) (s : List Int) : Int := worM (abd v.ls s)
theorem bestM_eq (v : Vg) : bestM v = bst (okB v) (woB v) (allS ((v.hs.length : Int) - 1) v.ls.length) := rfl
/-- What lies in the plan. -/
def PlanOk (W : World) (B n : Nat) (wo : List Int → Int) (r : Option (List Int)) (X : Option Addr) (m c : Nat) (a : Int) : Prop := match r with
  | none => a = -1 ∧ X = none ∧ m = 0 ∧ c = 0
  | some s => a = wo s ∧ m = n ∧ (∃ A, X = some A) ∧ W.ownsRow B 3 1 (.slice X m c) n (inr s).flatten
theorem PlanOk.moves {W U : World} {B n : Nat} {wo : List Int → Int} {r : Option (List Int)} {X : Option Addr} {m c : Nat} {a : Int} (h : PlanOk W B n wo r X m c a) (f : ∀ v n xs, W.ownsRow B 3 1 v n xs → U.ownsRow B 3 1 v n xs) : PlanOk U B n wo r X m c a := by
  cases r with
  | none => exact h
  | some s => exact ⟨h.1, h.2.1, h.2.2.1, f _ _ _ h.2.2.2⟩
theorem pick_at {ok : List Int → Bool} {wo : List Int → Int} {r : Option (List Int)} {x : List Int} {W : World} {B n : Nat} {X : Option Addr} {m c : Nat} {a : Int} (h : PlanOk W B n wo r X m c a) (hok : ok x = true) : pick ok wo r x = if a < wo x then some x else r := by
  cases r with
  | none =>
    have e : a = -1 := h.1
    subst e
    show (if ok x = true ∧ (-1 : Int) < wo x then some x else none) = _
    rw [hok]; simp
  | some s =>
    have e : a = wo s := h.1
    subst e
    show (if ok x = true ∧ wo s < wo x then some x else some s) = _
    rw [hok]; simp
theorem pick_no {ok : List Int → Bool} {wo : List Int → Int} {r : Option (List Int)} {x : List Int} (h : ok x = false) : pick ok wo r x = r := if_neg (fun e => by rw [h] at e; cases e.1)
/-- What holds between two rounds. -/
def BestI (v : Vg) (p : Vp) (base b6 b7 : Nat) (w0 : World) (pre : List StT) (W : World) : Prop :=
  (∃ X m c a, Bx W b6 79 #[.slice X m c, .int .i64 a] ∧ PlanOk W w0.heap.size p.ln (woB v) (bst (okB v) (woB v) (pre.map (·.s))) X m c a) ∧ (∃ d0 d1, Bx W b7 81 (trl v d0 d1)) ∧ Keep2 b6 b7 w0 W ∧ Below base w0 W
theorem bestI_abb {v : Vg} {p : Vp} {base b6 b7 : Nat} {w0 : World} (hb : base ≤ w0.heap.size) : Abb (BestI v p base b6 b7 w0) := by
  rintro s A C ⟨⟨X, m, c, a, h1, h2⟩, ⟨d0, d1, h3⟩, h4, h5⟩ hB
  exact ⟨⟨X, m, c, a, h1.call hB, h2.moves fun _ _ _ k => own_bel k hB⟩, ⟨d0, d1, h3.call hB⟩, h4.trans (Keep2.below hB), h5.trans (hB.mono (Nat.le_trans hb h4.size))⟩
theorem bestI_put {v : Vg} {p : Vp} {base b6 b7 : Nat} {w0 : World} (hb : base ≤ w0.heap.size) (s : List StT) (W : World) (l : Nat) (o o' : Obj) (hl : w0.heap.size ≤ l) (h : W.heap[l]? = some o) (ho : o.isCells = false) (hI : BestI v p base b6 b7 w0 s W) : BestI v p base b6 b7 w0 s (W.putObj l o') := by
  obtain ⟨⟨X, m, c, a, h1, h2⟩, ⟨d0, d1, h3⟩, h4, h5⟩ := hI
  have hx : ∀ {g t : Nat} {cs : Array Value}, Bx W g t cs → Bx (W.putObj l o') g t cs := fun {g t cs} k => by
    have : g ≠ l := fun e => by subst e; rw [show W.heap[g]? = _ from k] at h; cases h; cases ho
    exact (World.putObj_heap_other this).trans k
  exact ⟨⟨X, m, c, a, hx h1, h2.moves fun _ _ _ k => own_put k o' h ho⟩, ⟨d0, d1, hx h3⟩, h4.trans (Keep2.put W l o o' h ho), h5.trans ⟨rfl, rfl, rfl, by simp [World.putObj], fun k hk => World.putObj_heap_other (by omega)⟩⟩
theorem bestI_step {v : Vg} {p : Vp} {base B b6 b7 : Nat} {w0 W Y : World} {pre : List StT} {x : StT} {X : Option Addr} {m c : Nat} {a d0 d1 : Int} (hP : PlanOk Y w0.heap.size p.ln (woB v) (pick (okB v) (woB v) (bst (okB v) (woB v) (pre.map (·.s))) x.s) X m c a)
    (q6 : Bx Y b6 79 #[.slice X m c, .int .i64 a]) (q7 : Bx Y b7 81 (trl v d0 d1)) (hK : Keep2 b6 b7 w0 W) (hB : Below base w0 W) (k : K3 base B b6 b7 W Y) : BestI v p base b6 b7 w0 (pre ++ [x]) Y :=
  ⟨⟨X, m, c, a, q6, by rw [List.map_append]; show PlanOk _ _ _ _ (bst (okB v) (woB v) (pre.map (·.s) ++ [x.s])) _ _ _ _; rw [best_snoc]; exact hP⟩, ⟨d0, d1, q7⟩, hK.trans k.k2, hB.trans k.bl⟩
theorem held_of {v : Vg} {n : Nat} {s : List Int} (h1 : 1 ≤ v.hs.length) (h : s ∈ allS ((v.hs.length : Int) - 1) n) : s.length = n ∧ Held v s := by
  obtain ⟨e, k⟩ := (allS_mem (last := (v.hs.length : Int) - 1) (by omega) n s).1 h
  exact ⟨e, inH_held fun y hy => by have := k y hy; omega⟩
end Go.Proofs.YtdlohfglmagneaaDoor
