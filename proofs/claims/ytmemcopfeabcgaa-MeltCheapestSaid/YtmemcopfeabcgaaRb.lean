/- Ranges over a function whose iterator keeps state of its own in a box: its contract (SeqBx), the law for a loop whose body goes on always (range_bx). -/
import Derived.Test.YtmemcopfeabcgaaOc
import Derived.RangeFuncNested
import Derived.RangeFuncBound
import Derived.RangeFuncCalls
import Derived.RangeFuncLeaves
import Derived.Shelf.Abstract
import Derived.Shelf.RegionOpen
import Derived.OwnWalkIn
import Derived.TacticsInMore
import Derived.LoopNIn
import Derived.LoopIn
set_option linter.unusedSimpArgs false
set_option linter.unusedVariables false
namespace Go.Proofs.Ytmemcopfeabcgaa
open Go Go.RowKit
/-- The blocks from lo to b lie as they lay, and none is gone. -/
structure KeepMid (lo b : Nat) (W W' : World) : Prop where
  size : W.heap.size ≤ W'.heap.size
  same : ∀ k, lo ≤ k → k < b → W'.heap[k]? = W.heap[k]?
theorem KeepMid.refl (lo b : Nat) (W : World) : KeepMid lo b W W := ⟨Nat.le_refl _, fun _ _ _ => rfl⟩
theorem KeepMid.trans {lo b : Nat} {A B C : World} (h : KeepMid lo b A B) (k : KeepMid lo b B C) : KeepMid lo b A C :=
  ⟨Nat.le_trans h.size k.size, fun i h1 h2 => (k.same i h1 h2).trans (h.same i h1 h2)⟩
theorem KeepMid.part {lo lo' b b' : Nat} {A B : World} (h : KeepMid lo b A B) (h1 : lo ≤ lo') (h2 : b' ≤ b) : KeepMid lo' b' A B :=
  ⟨h.size, fun i i1 i2 => h.same i (by omega) (by omega)⟩
theorem KeepMid.below {lo b : Nat} {A B : World} (h : Below A.heap.size A B) (hb : b ≤ A.heap.size) : KeepMid lo b A B :=
  ⟨h.size, fun i _ i2 => h.block i (by omega)⟩
/-- An invariant that abides the turn of a block from lo to b, and new blocks. -/
def Abide {β : Type} (lo : Nat) (I : Nat → β → World → Prop) : Prop :=
  ∀ b s A B row, I b s A → b ≤ A.heap.size → A.grownBy B row → (∀ r, row = some r → lo ≤ r ∧ r < b) → I b s B
/-- The contract of an iterator that keeps state in boxes of its own, laid before it first yields. -/
def SeqBx {α : Type} (F : Fence) (n : Nat) (P : Program) (gf : Nat) (lb : Array Value) (encs : α → Array Value) (Kp : World → World → Prop) (S : List α → Prop) (N : Nat) (w : World) : Prop :=
  ∀ (l : Nat) (J : Nat → List α → World → Prop) (W : World), Below w.heap.size w W → Abide W.heap.size J →
    (∀ b pre x W1, W.heap.size ≤ b → b ≤ W1.heap.size → J b pre W1 → pre.length < N → YieldAt F (n - 1) P l (encs x) W1 fun e W' => e = .returned (.bool true) ∧ J b (pre ++ [x]) W' ∧ KeepMid W.heap.size b W1 W' ∧ Kp W1 W') →
    (∀ W', Below W.heap.size W W' → J W'.heap.size [] W') →
    CallsIn F n P gf (#[.func (.yield l) #[] #[]] ++ lb) W fun e W' => (∃ v, e = .returned v) ∧ ∃ b xs, S xs ∧ J b xs W' ∧ W.heap.size ≤ b ∧ b ≤ W'.heap.size
section
variable {F : Fence} {n : Nat} {P : Program} {w : World}
theorem range_bx {α : Type} {g : Operand} {ps : Array Tmp} {assign body : Code} {Q : Exit → Act → World → Prop} {a : Act}
    (hro : F.round = none) (h1 : 1 ≤ n) {gf : Nat} {lb : Array Value} (hg : a.eval g = .func (.func gf) #[] lb) (hFg : F.fn gf) (eg : ∀ args w, (callFunc gf args).run P w = .ok (.enter gf args) w)
    {encs : α → Array Value} {Kp : World → World → Prop} {S : List α → Prop} {N : Nat} {w0 : World} (hseq : SeqBx F (n - 1) P gf lb encs Kp S N w0)
    (hKt : ∀ {A B C : World}, Kp A B → Kp B C → Kp A C) (hKb : ∀ (W : World) (l : Nat) (o : Obj), w.heap.size ≤ l → Kp W (W.putObj l o)) (hb0 : Below w0.heap.size w0 w) (hps : ∀ x, (encs x).size = ps.size)
    (I : Nat → List α → World → Prop) (hI : Abide w.heap.size I) (h0 : ∀ W, Below w.heap.size w W → I W.heap.size [] W)
    (Ax : Nat → α → Act → World → Prop) (hAx : ∀ b x a' A l o, Ax b x a' A → w.heap.size ≤ l → l < b → Ax b x a' (A.putObj l o))
    (hassign : ∀ (l b : Nat) (pre : List α) (x : α) (W : World) (K : Act → World → Prop), w.heap.size < b → b ≤ W.heap.size → I b pre W →
      (∀ a' W', KeepMid w.heap.size b W W' → Kp W W' → I b pre W' → Ax b x a' W' → K a' W') →
      assign.wpIn (F.inRound l) (n - 1 - 1) P (Exit.then K (fun _ _ _ => False)) { tmps := (ps.zip (encs x)).foldl (fun t (p, v) => t.setIfInBounds p v) a.tmps, defers := [] } W)
    (hbody : ∀ (l b : Nat) (pre : List α) (x : α) (a' : Act) (W : World), w.heap.size < b → b ≤ W.heap.size → I b pre W → Ax b x a' W → pre.length < N →
      body.wpIn (F.inRound l) (n - 1 - 1) P (fun e _ W' => e = .normal ∧ KeepMid w.heap.size b W W' ∧ Kp W W' ∧ I b (pre ++ [x]) W') a' W)
    (hdone : ∀ (D b : Nat) (xs : List α) (W : World), w.heap.size ≤ D → w.heap.size < b → b ≤ W.heap.size → S xs → I b xs W → W.heap[D]? = some (.deferred (some [])) → Q .normal { a with defers := { target := .collected D, args := #[] } :: a.defers } W) :
    (Code.rangeFunc g ps assign body).wpIn F n P Q a w := by
  refine wpIn_rangeFunc ?_
  intro fn hfn
  rw [hro]
  generalize hR : (fun st : LoopState => ({ state := st, pending := none, fn, tmps := a.tmps, params := ps, assign, body, defers := w.heap.size } : Loop)) = R
  obtain ⟨l, hl⟩ : ∃ l, w.heap.size + 1 = l := ⟨_, rfl⟩
  obtain ⟨W1, hW1⟩ : ∃ W1, (w.alloc (.deferred (some []))).alloc (.loop (R .ready)) = W1 := ⟨_, rfl⟩
  have hL1 : W1.heap[l]? = some (.loop (R .ready)) := by
    have := World.alloc_heap_new (w.alloc (.deferred (some []))) (.loop (R .ready))
    rw [World.size_alloc, hl, hW1] at this
    exact this
  have hB1 : Below w.heap.size w W1 := by rw [← hW1]; exact ((Below.refl _ w).alloc (Nat.le_refl _) _).alloc (by simp) _
  have hD1 : W1.heap[w.heap.size]? = some (.deferred (some [])) := by
    rw [← hW1]; exact (Below.heap_alloc _ _ _ (by simp)).trans (World.alloc_heap_new w _)
  have hs1 : W1.heap.size = w.heap.size + 2 := by rw [← hW1]; simp
  refine ⟨l, [{ target := .collected w.heap.size, args := #[] }], W1, { target := .fn (.func gf) lb, args := #[.func (.yield l) #[] #[]] }, W1, gf, #[.func (.yield l) #[] #[]] ++ lb, W1, ?_, ?_, ?_, ?_, fun _ => h1, ?_⟩
  · have := run_enterLoop_outer (P := P) (w := w) fn a.tmps ps assign body
    rw [← hW1, ← hR, ← hl]
    exact this
  · simp only [resolve, hg]
    simp [go_sem]
  · intro f' hf'
    simp [Target.leads] at hf'
    subst hf'
    exact hFg
  · simp [invoke, go_sem, eg]
  · refine (hseq l (fun b pre W => I b pre W ∧ W.heap[l]? = some (.loop (R .ready)) ∧ W.heap[w.heap.size]? = some (.deferred (some [])) ∧ W1.heap.size ≤ b) W1 (hb0.trans (hB1.mono hb0.size)) ?_ ?_ ?_).mono ?_
    · rintro b s A B row ⟨i1, i2, i3, i4⟩ hbA hg' hr
      have far : ∀ k o, A.heap[k]? = some o → k < W1.heap.size → B.heap[k]? = some o := fun k o hk hlt => by
        refine (hg'.block k (Array.getElem?_eq_some_iff.1 hk).1 fun e => ?_).trans hk
        have := hr k e.symm
        omega
      exact ⟨hI b s A B row i1 hbA hg' fun r e => by have := hr r e; omega, far l _ i2 (by omega), far _ _ i3 (by omega), i4⟩
    · rintro b pre x W hWb hbW ⟨i1, i2, i3, i4⟩ hlen
      have hy := run_yield (P := P) (args := encs x) i2 (by rw [← hR]; exact hps x)
      rw [← hR] at hy
      refine ⟨fn, _, assign, body, hy, roundIn_of_wpIn hfn (hassign l b pre x W _ (by omega) hbW i1 ?_)⟩
      intro a' Wa kA kpA iA axA
      have hLa : Wa.heap[l]? = some (.loop (R .ready)) := (kA.same l (by omega) (by omega)).trans i2
      have hDa : Wa.heap[w.heap.size]? = some (.deferred (some [])) := (kA.same _ (by omega) (by omega)).trans i3
      have hlt : l < Wa.heap.size := (Array.getElem?_eq_some_iff.1 hLa).1
      have hbegin := run_beginRound (P := P) hLa (by rw [← hR])
      refine ⟨_, hbegin, ?_⟩
      have hLb : (Wa.putObj l (.loop { R .ready with state := .busy })).heap[l]? = some (.loop { R .ready with state := .busy }) := World.putObj_heap_same hlt
      have hDb : (Wa.putObj l (.loop { R .ready with state := .busy })).heap[w.heap.size]? = some (.deferred (some [])) := (World.putObj_heap_other (by omega)).trans hDa
      have hbs : b ≤ (Wa.putObj l (.loop { R .ready with state := .busy })).heap.size := by have := kA.size; simp [World.putObj]; omega
      have iB := hI b pre Wa _ (some l) iA (by have := kA.size; omega) (grownBy_putObj' Wa l (.loop { R .ready with state := .busy })) fun r e => by cases e; omega
      refine wpIn_mono (hbody l b pre x a' _ (by omega) hbs iB (hAx b x a' Wa l _ axA (by omega) (by omega)) hlen) ?_
      rintro e a3 W3 ⟨rfl, k3, kp3, i3'⟩
      have hLc : W3.heap[l]? = some (.loop { R .ready with state := .busy }) := (k3.same l (by omega) (by omega)).trans hLb
      have hDc : W3.heap[w.heap.size]? = some (.deferred (some [])) := (k3.same _ (by omega) (by omega)).trans hDb
      have hend := run_endRound (P := P) none hLc
      have hb3 : b ≤ W3.heap.size := Nat.le_trans hbs k3.size
      refine ⟨_, _, hend, rfl, ⟨hI b _ W3 _ (some l) i3' hb3 (grownBy_putObj' W3 l _) fun r e => by cases e; omega, ?_, (World.putObj_heap_other (by omega)).trans hDc, i4⟩, ?_, hKt kpA (hKt (hKb Wa l _ (by omega)) (hKt kp3 (hKb W3 l _ (by omega))))⟩
      · rw [World.putObj_heap_same (Array.getElem?_eq_some_iff.1 hLc).1, ← hR]
        rfl
      · refine ⟨?_, fun k h1 h2 => ?_⟩
        · have e1 := kA.size
          have e2 := k3.size
          simp [World.putObj] at e2 ⊢
          omega
        · rw [World.putObj_heap_other (by omega), k3.same k (by omega) h2, World.putObj_heap_other (by omega), kA.same k (by omega) h2]
    · rintro W' hb'
      have far : ∀ k o, W1.heap[k]? = some o → W'.heap[k]? = some o := fun k o hk => (hb'.block k (Array.getElem?_eq_some_iff.1 hk).1).trans hk
      exact ⟨h0 W' (hB1.trans (hb'.mono (by omega))), far _ _ hL1, far _ _ hD1, hb'.size⟩
    · rintro e W2 ⟨⟨v, rfl⟩, b, xs, hS, ⟨i1, i2, i3, i4⟩, hb1, hb2⟩
      have hend := run_endLoop (P := P) i2 (by rw [← hR]; simp)
      have hpn : (R .ready).pending = none := by rw [← hR]
      rw [hpn] at hend
      exact ⟨none, _, hend, hdone w.heap.size b xs _ (Nat.le_refl _) (by omega) (by simp [World.putObj]; exact hb2) hS (hI b xs W2 _ (some l) i1 hb2 (grownBy_putObj' W2 l _) fun r e => by cases e; omega) ((World.putObj_heap_other (by omega)).trans i3)⟩
end
end Go.Proofs.Ytmemcopfeabcgaa
