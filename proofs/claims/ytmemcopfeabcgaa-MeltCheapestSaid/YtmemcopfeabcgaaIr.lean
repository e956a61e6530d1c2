/- In a round of a range over a function: a region that draws its order, by the laws of Reg and Rl. -/
import Derived.Test.YtmemcopfeabcgaaRl
import Derived.Test.YtmemcopfeabcgaaRb
set_option linter.unusedSimpArgs false
set_option linter.unusedVariables false
namespace Go.Proofs.Ytmemcopfeabcgaa
open Go Go.RowKit Go.Shelf
section
variable {P : Program} {ops : Array Oper} {Q : Exit → Act → World → Prop} {S : World → Prop} {G : Nat → Bool} {l n : Nat}
def noDefer (ops : Array Oper) : Bool := ops.all fun o => match o.op with | .defer _ => false | _ => true
theorem wpOpIn_of (hQ : ¬ LetsOut Q) (hd : noDefer ops = true) (hrow : ∀ row args w R, Rows P row args w R → RowsIn (Fence.wide.inRound l) (n - 1) P row args w R) {i : Nat} {K : Act → World → Prop} {a : Act} {w : World}
    (h : wpOp P ops Q i K a w) : wpOpIn (Fence.wide.inRound l) n P ops Q i K a w := by
  unfold wpOp at h
  unfold wpOpIn
  cases ho : ops[i]? with
  | none => rw [ho] at h; exact h
  | some o =>
    rw [ho] at h
    simp only at h ⊢
    by_cases hw : Region.wanted o (yielded ops a.tmps) = true
    · rw [if_pos hw] at h ⊢
      rcases h with h | h
      · have hnd : ∀ c, o.op ≠ .defer c := fun c hc => by
          have hm : o ∈ ops := Array.mem_of_getElem? ho
          have := Array.all_eq_true'.1 hd o hm
          rw [hc] at this; cases this
        refine ⟨fun _ _ => trivial, ?_⟩
        rw [show (Fence.wide.inRound l).round = some l from rfl, Oper.semAt_some l a.eval o hnd]
        unfold Oper.wp at h
        generalize (execOp a.eval o).run P w = r at h ⊢
        cases r with
        | ok x w' =>
          cases x <;> simp only [Oper.upon, Oper.uponIn] at h ⊢
          case enter f args => exact ⟨fun hh => by simp [Fence.wide] at hh, CallsIn.inRound l (callsIn_wide.2 h)⟩
          case row row args => exact ⟨fun hh => by simp [Fence.wide] at hh, hrow _ _ _ _ h⟩
          all_goals exact h
        | halt x w' => cases x <;> simp only [Oper.upon, Oper.uponIn] at h ⊢ <;> exact h
      · exact absurd h.2 hQ
    · rw [if_neg hw] at h ⊢
      exact ⟨fun _ _ => trivial, h⟩
theorem wpAnyIn_of (hQ : ¬ LetsOut Q) (hd : noDefer ops = true) (hrow : ∀ row args w R, Rows P row args w R → RowsIn (Fence.wide.inRound l) (n - 1) P row args w R) : ∀ (fuel : Nat) (listed : Array Bool) (a : Act) (w : World),
    wpAny P .any ops Q fuel listed a w → wpAnyIn (Fence.wide.inRound l) n P .any ops Q fuel listed a w
  | 0, _, _, _, h => h
  | fuel + 1, _, _, _, h => ⟨h.1, fun i hi => wpOpIn_of hQ hd hrow (wpOp_mono (fun a' w' h' => wpAnyIn_of hQ hd hrow fuel _ a' w' h') (h.2 i hi))⟩
/-- The marks that ranges over functions have left among the deferred calls: each a block of its own, with no call in it. -/
def Marks (B : Nat) (W : World) (ds : List Deferred) : Prop := ∃ Ds : List Nat, ds = Ds.map (fun D => { target := .collected D, args := #[] }) ∧ Ds.Nodup ∧ ∀ D ∈ Ds, B ≤ D ∧ W.heap[D]? = some (.deferred (some []))
theorem Marks.nil (B : Nat) (W : World) : Marks B W [] := ⟨[], rfl, List.nodup_nil, fun _ h => by cases h⟩
theorem Marks.kept {B : Nat} {W W' : World} {ds : List Deferred} (h : Marks B W ds) (hk : ∀ (k : Nat) (o : Obj), B ≤ k → W.heap[k]? = some o → o.isCells = false → W'.heap[k]? = some o) : Marks B W' ds := by
  obtain ⟨Ds, h1, h2, h3⟩ := h
  exact ⟨Ds, h1, h2, fun D hD => ⟨(h3 D hD).1, hk D _ (h3 D hD).1 (h3 D hD).2 rfl⟩⟩
theorem Marks.call {B : Nat} {W W' : World} {ds : List Deferred} (h : Marks B W ds) (hb : Below W.heap.size W W') : Marks B W' ds :=
  h.kept fun k _ _ ho _ => (hb.block k (Array.getElem?_eq_some_iff.1 ho).1).trans ho
theorem Marks.more {B D : Nat} {W : World} {ds : List Deferred} (h : Marks B W ds) (hB : B ≤ D) (hD : W.heap[D]? = some (.deferred (some []))) (hn : ∀ d ∈ ds, ∀ D', d.target = .collected D' → D' ≠ D) : Marks B W ({ target := .collected D, args := #[] } :: ds) := by
  obtain ⟨Ds, rfl, h2, h3⟩ := h
  refine ⟨D :: Ds, rfl, List.nodup_cons.2 ⟨fun hm => hn _ (List.mem_map_of_mem hm) D rfl rfl, h2⟩, fun D' hD' => ?_⟩
  rcases List.mem_cons.1 hD' with rfl | h
  · exact ⟨hB, hD⟩
  · exact h3 D' h
theorem Marks.lt {B : Nat} {W : World} {ds : List Deferred} (h : Marks B W ds) : ∀ d ∈ ds, ∀ D', d.target = .collected D' → D' < W.heap.size := by
  obtain ⟨Ds, rfl, h2, h3⟩ := h
  intro d hd D' e
  obtain ⟨D, hD, rfl⟩ := List.mem_map.1 hd
  injection e with e
  exact e ▸ (Array.getElem?_eq_some_iff.1 (h3 D hD).2).1
/-- A function leaves through its marks. -/
theorem leavesM_marks {fn : Func} {tmps : Array Value} {R : Ending → World → Prop} {F : Fence} {B : Nat} : ∀ (ds : List Deferred) (W : World), Marks B W ds →
    (∀ W', Below B W W' → (∀ k, (∀ d ∈ ds, d.target ≠ .collected k) → W'.heap[k]? = W.heap[k]?) → W'.heap.size = W.heap.size → ∃ v, (results fn tmps).run P W' = .ok v W' ∧ R (.returned v) W') → LeavesInM F n P fn tmps R ds .returning W := by
  intro ds
  induction ds with
  | nil => intro W _ h; exact h W (Below.refl _ _) (fun _ _ => rfl) rfl
  | cons d ds ih =>
    intro W hM h
    obtain ⟨Ds, e, h2, h3⟩ := hM
    cases Ds with
    | nil => cases e
    | cons D Ds =>
      simp only [List.map_cons, List.cons.injEq] at e
      obtain ⟨rfl, rfl⟩ := e
      rw [List.nodup_cons] at h2
      have hD := h3 D (by simp)
      have hlt := (Array.getElem?_eq_some_iff.1 hD.2).1
      refine ⟨by simp, .inl ⟨D, _, rfl, run_takeDeferred hD.2, ih _ ⟨Ds, rfl, h2.2, fun D' hD' => ⟨(h3 D' (List.mem_cons_of_mem _ hD')).1, ?_⟩⟩ fun W' hb hk hs => ?_⟩⟩
      · rw [World.putObj_heap_other (fun e : D' = D => h2.1 (by rw [← e]; exact hD'))]; exact (h3 D' (List.mem_cons_of_mem _ hD')).2
      · refine h W' (((Below.refl B W).grown (grownBy_putObj' W D (.deferred none)) (by omega) (fun k e => by cases e; exact hD.1)).trans hb) (fun k hk' => ?_) (hs.trans (by simp [World.putObj]))
        rw [hk k (fun d hd => hk' d (List.mem_cons_of_mem _ hd)), World.putObj_heap_other (fun e => hk' _ (List.mem_cons_self ..) (by rw [e]))]
theorem rows_wide {n : Nat} (row : String) (args : Array Value) (w : World) (R : Value → World → Prop) (h : Rows P row args w R) : RowsIn (Fence.wide.inRound l) n P row args w R :=
  fun c cs _ => let ⟨v, w', r, s⟩ := h c cs; ⟨v, w', r, stepsIn_wide.2 s⟩
/-- The beginning, in a round. -/
theorem AnyG.startIn {id : Nat} {a : Act} {w : World} (S : World → Prop) (G : Nat → Bool) (hm : P.follows .mixedOrders = true) (hd : noDefer ops = true) (hQ : ∀ a w, ¬ Q .outgrown a w)
    (h : AnyG P .any ops Q S G ops.size (Array.replicate ops.size false) a w.drew) : (Code.region id ops true).wpIn (Fence.wide.inRound l) n P Q a w :=
  wpIn_region_any hm (wpAnyIn_of (fun ⟨a, w, h⟩ => hQ a w h) hd (fun row args w R h => rows_wide row args w R h) _ _ _ _ (AnyG.any _ _ _ _ h))
end
end Go.Proofs.Ytmemcopfeabcgaa
