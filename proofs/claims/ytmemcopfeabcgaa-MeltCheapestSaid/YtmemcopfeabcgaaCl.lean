/- slices.Clone of a row of numbers. -/
import Derived.Test.YtmemcopfeabcgaaIb
import Derived.ArgAppend
import Derived.OwnWalk
set_option linter.unusedSimpArgs false
set_option linter.unusedVariables false
namespace Go.Proofs.Ytmemcopfeabcgaa
open Go Go.RowKit
theorem own_shape {w : World} {b : Nat} {e : TypeId} {s : Nat} {v : Value} {n : Nat} {xs : List Value} (h : w.ownsRow b e s v n xs) : ∃ A c, v = .slice A n c := by
  rcases h.2 with ⟨rfl, rfl⟩ | ⟨g, cap, cur, rfl, _⟩
  · exact ⟨none, 0, rfl⟩
  · exact ⟨_, _, rfl⟩
theorem nil_no (a : Addr) (n c : Nat) (w : World) : (binOp .eql 22 (.slice (some a) n c) (.slice none 0 0)).run Try.prog w = .ok (.bool false) w := by kernel_rfl
theorem nil_yes (w : World) : (binOp .eql 22 (.slice none 0 0) (.slice none 0 0)).run Try.prog w = .ok (.bool true) w := by kernel_rfl
theorem info3' : (Try.prog.info? 3).map (fun i => (i.zero, i.size, i.bytes)) = some (some (.int .i64 0), 1, 8) := by kernel_rfl
set_option maxRecDepth 100000 in
set_option maxHeartbeats 1000000 in
theorem clone_any (a : Addr) (n c : Nat) (xs : List Value) (w : World) (hn : n ≤ 1000) (hlen : xs.length = n * 1) (h1c : ∀ u ∈ xs, u.oneCell' = true) (hcs0 : ∀ j u, xs[j]? = some u → w.cell? (a.add j) = some u) :
    Calls Try.prog 61 #[.slice (some a) n c] w fun e w' => (∃ A' c', e = .returned (.slice A' n c') ∧ w'.ownsRow w.heap.size 3 1 (.slice A' n c') n xs) ∧ Below w.heap.size w w' := by
  obtain ⟨i3, hi3, hz3, hs3, iy3⟩ := info_parts info3'
  have hb0 : Below w.heap.size w (w.alloc (.cells #[] 3)) := (Below.refl _ _).alloc (Nat.le_refl _) _
  have how := World.ownsRow_made (w := w) (base := w.heap.size) (e := 3) (size := 1) #[] 0 (Nat.le_refl _) (by unfold maxLen; omega) (by simp)
  have hcs : ∀ j u, xs[j]? = some u → (w.alloc (.cells #[] 3)).cell? (a.add j) = some u := fun j u hu => cellA (hcs0 j u hu)
  have hnil := nil_no a n c
  go_enter Try.func61, Try.ntmps61
  go_wp2_with (first
    | (at_builtin; refine wpList_append_own _ rfl (.tmp 5) (.tmp 6) 22 rfl w.heap.size 3 i3 _ 1 8 Try.underlying22 hi3 hz3 hs3 iy3 rfl (by decide) (.slice (some ⟨w.heap.size, 0, none⟩) 0 0) 0 [] rfl how a n c xs rfl hlen hcs h1c (by unfold maxLen; omega) (by omega) (by simp <;> omega) ?_; intro v' w' o1 o2 o3; obtain ⟨A', C', rfl⟩ := own_shape o1)
    | fail)
  have hB : Below w.heap.size w w' := hb0.grown o2 hb0.size (fun k e => by simp [Value.ownBlock] at e <;> omega)
  go_ret
  exact ⟨⟨_, _, rfl, by simpa using o1⟩, hB⟩
end Go.Proofs.Ytmemcopfeabcgaa
