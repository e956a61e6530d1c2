/- Rows of rows of one's own; what is in the grabs of a blend, bin by bin. -/
import Derived.Test.YtmemcopfeabcgaaKt
set_option linter.unusedSimpArgs false
set_option linter.unusedVariables false
namespace Go.Proofs.Ytmemcopfeabcgaa
open Go Go.RowKit
theorem info22 : (Try.prog.info? 22).map (fun i => (i.zero, i.size, i.bytes)) = some (some (.slice none 0 0), 1, 24) := by kernel_rfl
structure LsOwn (w : World) (base : Nat) (vs : List Value) (Ls : List (List Int)) : Prop where
  len : vs.length = Ls.length
  row : ∀ (k : Nat) (v : Value) (l : List Int), vs[k]? = some v → Ls[k]? = some l → ∃ A c, v = .slice A l.length c ∧ w.ownsRow base 3 1 v l.length (inr l).flatten
section
variable {w w' : World} {base : Nat} {vs : List Value} {Ls : List (List Int)}
theorem LsOwn.kept (h : LsOwn w base vs Ls) {row : Option Nat} (k : w.grownBy w' row) (hne : ∀ v n xs, w.ownsRow base 3 1 v n xs → v.ownBlock = none ∨ v.ownBlock ≠ row) : LsOwn w' base vs Ls :=
  ⟨h.len, fun j r b hr hb => by obtain ⟨A, c, e, o⟩ := h.row j r b hr hb; exact ⟨A, c, e, o.kept k (hne _ _ _ o)⟩⟩
theorem LsOwn.bel (h : LsOwn w base vs Ls) (hb : Below w.heap.size w w') : LsOwn w' base vs Ls :=
  ⟨h.len, fun j r b hr hb' => by obtain ⟨A, c, e, o⟩ := h.row j r b hr hb'; exact ⟨A, c, e, own_bel o hb⟩⟩
theorem LsOwn.ft {g : Nat} (h : LsOwn w base vs Ls) (hf : Fd g w) (k : w.grownBy w' (some g)) : LsOwn w' base vs Ls :=
  ⟨h.len, fun j r b hr hb => by obtain ⟨A, c, e, o⟩ := h.row j r b hr hb; exact ⟨A, c, e, own_fd o hf k (by decide)⟩⟩
theorem LsOwn.own (h : LsOwn w base vs Ls) {b n t s : Nat} {v : Value} {xs : List Value} (ho : w.ownsRow b t s v n xs) (k : w.grownBy w' v.ownBlock) (ht : t ≠ 3) : LsOwn w' base vs Ls :=
  h.kept k fun v' n' xs' ho' => own_ne ho' ho (Ne.symm ht)
theorem LsOwn.nil (w : World) (base : Nat) : LsOwn w base [] [] := ⟨rfl, fun j r b h => by simp at h⟩
theorem LsOwn.snoc (h : LsOwn w base vs Ls) {A : Option Addr} {c n : Nat} {l : List Int} (hl : l.length = n) (hr : w.ownsRow base 3 1 (.slice A n c) n (inr l).flatten) : LsOwn w base (vs ++ [.slice A n c]) (Ls ++ [l]) := by
  refine ⟨by simp [h.len], fun j r' b' h1 h2 => ?_⟩
  by_cases hj : j < vs.length
  · rw [List.getElem?_append_left hj] at h1
    rw [List.getElem?_append_left (by rw [← h.len]; exact hj)] at h2
    exact h.row j r' b' h1 h2
  · have hj2 : j < (vs ++ [Value.slice A n c]).length := (List.getElem?_eq_some_iff.1 h1).1
    obtain rfl : j = vs.length := by simp at hj2; omega
    rw [List.getElem?_concat_length] at h1
    rw [h.len, List.getElem?_concat_length] at h2
    simp only [Option.some.injEq] at h1 h2
    subst h1 h2
    exact ⟨A, c, by rw [hl], by rw [hl]; exact hr⟩
theorem LsOwn.at_ (h : LsOwn w base vs Ls) {b c n : Nat} {A : Option Addr} (ho : w.ownsRow b 22 1 (.slice A n c) n vs) : LsAt w w.heap.size A Ls := by
  have e : vs = (vs.map fun v => [v]).flatten := by
    clear h ho
    induction vs with
    | nil => rfl
    | cons x r ih => simp only [List.map_cons, List.flatten_cons, List.singleton_append, List.cons.injEq, true_and]; exact ih
  have hn : vs.length = n := by have := ho.1; omega
  rw [e] at ho
  obtain ⟨A', c', e', hs⟩ := own_sl ho (by intro r hr; obtain ⟨x, _, rfl⟩ := List.mem_map.1 hr; rfl) (by simpa using hn)
  simp only [Value.slice.injEq] at e'
  rw [← e'.1] at hs
  intro k l hk
  have hk2 : k < vs.length := by rw [h.len]; exact (List.getElem?_eq_some_iff.1 hk).1
  obtain ⟨A2, c2, e2, o⟩ := h.row k vs[k] l (List.getElem?_eq_getElem hk2) hk
  obtain ⟨ad, q1, q2, q3⟩ := hs.at_ (k := k) (by simpa using hk2)
  simp only [List.getElem_map, Nat.mul_one] at q3
  rw [e2] at q3 o
  exact ⟨ad, A2, c2, q1, q2, q3.head rfl, own_inr o rfl⟩
end
/-! What is in the grabs, bin by bin. -/
def lsOf (row : Nat → List Int) (b : Nat → Int) : Nat → List (List Int)
  | 0 => []
  | i + 1 => lsOf row b i ++ List.replicate (b i).toNat (row i)
theorem lsOf_len (row : Nat → List Int) (b : Nat → Int) : ∀ i : Nat, (lsOf row b i).length = off b i
  | 0 => rfl
  | i + 1 => by simp only [lsOf, List.length_append, List.length_replicate, lsOf_len row b i, off]
theorem lsOf_at (row : Nat → List Int) (b : Nat → Int) : ∀ {k i t : Nat}, i < k → t < (b i).toNat → (lsOf row b k)[off b i + t]? = some (row i)
  | 0, i, t, h, _ => by omega
  | k + 1, i, t, h, ht => by
    simp only [lsOf]
    by_cases hi : i < k
    · rw [List.getElem?_append_left (by rw [lsOf_len]; exact off_lt b hi ht)]
      exact lsOf_at row b hi ht
    · obtain rfl : i = k := by omega
      rw [List.getElem?_append_right (by rw [lsOf_len]; omega), lsOf_len, Nat.add_sub_cancel_left, List.getElem?_replicate, if_pos ht]
theorem lsOf_mem (row : Nat → List Int) (b : Nat → Int) {r : List Int} : ∀ {k : Nat}, r ∈ lsOf row b k → ∃ i, i < k ∧ r = row i
  | 0, h => by simp [lsOf] at h
  | k + 1, h => by
    simp only [lsOf, List.mem_append, List.mem_replicate] at h
    rcases h with h | ⟨_, rfl⟩
    · obtain ⟨i, hi, e⟩ := lsOf_mem row b h
      exact ⟨i, by omega, e⟩
    · exact ⟨k, by omega, rfl⟩
def rowOf (f : Nat → Int) (n : Nat) : List Int := (List.range n).map f
theorem rowOf_len (f : Nat → Int) (n : Nat) : (rowOf f n).length = n := by simp [rowOf]
theorem rowOf_succ (f : Nat → Int) (n : Nat) : rowOf f (n + 1) = rowOf f n ++ [f n] := by simp [rowOf, List.range_succ]
theorem rowOf_at (f : Nat → Int) {n j : Nat} (h : j < n) : (rowOf f n)[j]'(by rw [rowOf_len]; exact h) = f j := by simp [rowOf]
theorem rep_snoc {α : Type} (n : Nat) (x : α) : List.replicate (n + 1) x = List.replicate n x ++ [x] := List.replicate_succ'
theorem ls_snoc (row : Nat → List Int) (b : Nat → Int) (i k : Nat) : lsOf row b i ++ List.replicate (k + 1) (row i) = (lsOf row b i ++ List.replicate k (row i)) ++ [row i] := by rw [rep_snoc, List.append_assoc]
/-- Bins' least and greatest, metal by metal. -/
def loRow (o : Od) (i : Nat) : List Int := rowOf (fun j => (o.bn i).g1 j) o.lm.length
def hiRow (o : Od) (i : Nat) : List Int := rowOf (fun j => (o.bn i).g2 j) o.lm.length
theorem gmOf_rows {o : Od} {b : Nat → Int} {f : Nat → Nat → Int} {n k i t j : Nat} (hi : i < k) (ht : t < (b i).toNat) (hj : j < n) : gmOf (lsOf (fun i => rowOf (f i) n) b k) (off b i + t) j = f i j := by
  rw [gmOf_at (lsOf_at _ b hi ht) (by rw [rowOf_len]; exact hj)]
  exact rowOf_at _ hj
end Go.Proofs.Ytmemcopfeabcgaa
