/- The iterator of bridge.numbers, as a contract: it hands out the numbers of its range, for every loop body that leaves its box. -/
import Derived.Test.YtgbogdckmfencaaFol
import Derived.RangeFuncNested
import Derived.RangeFuncBound
import Derived.RangeFuncCalls
import Derived.RangeFuncLeaves
import Derived.Shelf.Abstract
import Derived.Shelf.RegionOpen
import Derived.OwnWalkIn
import Derived.TacticsInMore
import Derived.LoopNIn
import Derived.LoopIn
set_option linter.unusedSimpArgs false
set_option linter.unusedVariables false
namespace Go.Proofs.Ytgbogdckmfencaa
open Go.RowKit Go.Shelf
attribute [local go_sem] Oper.semAt_some
/-- The numbers of a range, each with its bounds. -/
abbrev In (lo hi : Int) := { x : Int // lo ≤ x ∧ x ≤ hi }
def rngL (lo hi : Int) : List Int := (List.range (hi - lo + 1).toNat).map fun i => lo + (i : Nat)
def upTo (lo : Int) (k : Nat) : List Int := (List.range k).map fun i => lo + (i : Nat)
theorem upTo_succ (lo : Int) (k : Nat) : upTo lo (k + 1) = upTo lo k ++ [lo + k] := by simp [upTo, List.range_succ]
theorem upTo_pre (lo : Int) {k m : Nat} (h : k ≤ m) : upTo lo k <+: upTo lo m := by
  have e : upTo lo k = (upTo lo m).take k := by simp [upTo, ← List.map_take, List.take_range, Nat.min_eq_left h]
  rw [e]; exact List.take_prefix _ _
def SameBox (g : Nat) (A B : World) : Prop := B.heap[g]? = A.heap[g]?
set_option maxHeartbeats 1000000 in
theorem numbers1_in (F : Fence) (n : Nat) (h105 : F.fn 105) (hro : F.round = none) (hn : 1 ≤ n) (g : Nat) (lo hi : Int) (b1 : -1000 ≤ lo) (b2 : lo ≤ 1000) (b3 : -1000 ≤ hi) (b4 : hi ≤ 1000) (l : Nat) (J Jx : List (In lo hi) → World → Prop)
    (hY : ∀ pre x W, J pre W → pre.length < (hi - lo + 1).toNat → YieldAt F (n - 1) Try.prog l #[.int .i64 x.1] W fun e W' =>
      (e = .returned (.bool true) ∧ J (pre ++ [x]) W' ∧ SameBox g W W') ∨ (e = .returned (.bool false) ∧ Jx (pre ++ [x]) W'))
    (W : World) (hB : Bx W g 23 #[.int .i64 lo, .int .i64 hi]) (h0 : J [] W) :
    CallsIn F n Try.prog 105 #[.func (.yield l) #[] #[], .pointer (some ⟨g, 0, none⟩)] W fun e W' => (∃ v, e = .returned v) ∧
      ((∃ xs : List (In lo hi), xs.map (·.1) = rngL lo hi ∧ J xs W') ∨ (∃ pre : List (In lo hi), pre.map (·.1) <+: rngL lo hi ∧ Jx pre W')) := by
  obtain ⟨c0, c1, cf, cz⟩ := hB.two
  refine callsIn_of_wp Try.func105 rfl h105 ?_ hro
  simp only [Try.ntmps105, List.size_toArray, List.length_cons, List.length_nil, Nat.reduceAdd, Nat.reduceSub, Array.replicate_succ, Array.replicate_zero, List.push_toArray, List.append_toArray, List.nil_append, List.cons_append]
  gi_wp2
  gi_loopw [3] (fun p wr => ∃ pre : List (In lo hi), p = .int .i64 (lo + pre.length) ∧ pre.map (·.1) = upTo lo pre.length ∧ ((pre.length : Int) ≤ hi - lo + 1 ∨ pre.length = 0) ∧ Bx wr g 23 #[.int .i64 lo, .int .i64 hi] ∧ J pre wr)
    (fun p _ => (hi + 1 - intOf p).toNat)
  case atStart => exact ⟨[], by simp, rfl, .inr rfl, hB, h0⟩
  case round =>
    obtain ⟨pre, rfl, hpre, hlen, hBr, hJ⟩ := hrel
    clear hB c0 c1 cf cz
    obtain ⟨c0, c1, cf, cz⟩ := hBr.two
    by_cases hle : lo + (pre.length : Int) ≤ hi
    · have hlt : pre.length < (hi - lo + 1).toNat := by omega
      obtain ⟨fn, tmps, assign, body, hy, hR⟩ := hY pre ⟨lo + pre.length, by omega, hle⟩ wr hJ hlt
      dsimp only at hy
      gi_wp2
      refine hR.mono ?_
      rintro e W3 (⟨rfl, hJ3, hk3⟩ | ⟨rfl, hJx3⟩)
      · gi_wp2
        go_roundw
        case rel => exact ⟨pre ++ [⟨lo + pre.length, by omega, hle⟩], by simp; omega, by simp [hpre, upTo_succ], by simp; omega, hk3.trans hBr, hJ3⟩
        case measure => simp [intOf]; omega
      · gi_wp2
        refine bodyPost_ret (results_none rfl _ _ _) rfl ?_
        refine ⟨⟨_, rfl⟩, .inr ⟨pre ++ [⟨lo + pre.length, by omega, hle⟩], ?_, hJx3⟩⟩
        have e : (pre ++ [(⟨lo + pre.length, by omega, hle⟩ : In lo hi)]).map (·.1) = upTo lo (pre.length + 1) := by simp [hpre, upTo_succ]
        rw [e]
        exact upTo_pre lo (by omega)
    · gi_wp2
      go_end0
      refine ⟨⟨_, rfl⟩, .inl ⟨pre, ?_, hJ⟩⟩
      refine hpre.trans ?_
      unfold upTo rngL
      rw [show (hi - lo + 1).toNat = pre.length by omega]
theorem sameBox_t {g : Nat} {A B C : World} (h : SameBox g A B) (k : SameBox g B C) : SameBox g A C := k.trans h
theorem sameBox_b {g : Nat} {w : World} (hg : g < w.heap.size) (W : World) (l : Nat) (o o' : Obj) (hl : w.heap.size ≤ l) (_ : W.heap[l]? = some o) (_ : o.isCells = false) (_ : o.isWalk = false) : SameBox g W (W.putObj l o') :=
  (grownBy_putObj' W l o').block g (by have := (Array.getElem?_eq_some_iff.1 ‹W.heap[l]? = some o›).1; omega) (fun e => by injection e; omega)
/-- The iterator of numbers, as a contract. -/
theorem numbers1_stops (F : Fence) (n : Nat) (h105 : F.fn 105) (hro : F.round = none) (hn : 1 ≤ n) (g : Nat) (lo hi : Int) (b1 : -1000 ≤ lo) (b2 : lo ≤ 1000) (b3 : -1000 ≤ hi) (b4 : hi ≤ 1000) (w : World) (hB : Bx w g 23 #[.int .i64 lo, .int .i64 hi]) :
    SeqStopsK F n Try.prog 105 #[.pointer (some ⟨g, 0, none⟩)] (fun x : In lo hi => #[.int .i64 x.1]) (SameBox g) (fun xs => xs.map (·.1) = rngL lo hi) (fun pre => pre.map (·.1) <+: rngL lo hi) (hi - lo + 1).toNat w :=
  fun l J Jx W hW _ _ hY h0 => (numbers1_in F n h105 hro hn g lo hi b1 b2 b3 b4 l J Jx hY W (hB.below hW hB.lt) h0)
end Go.Proofs.Ytgbogdckmfencaa
