/- What a feed leaves, rows cut short, Part. -/
import Derived.Test.YtgbogdckmfencaaSlip
import Derived.Test.YtgbogdckmfencaaFi
set_option linter.unusedSimpArgs false
set_option linter.unusedVariables false
namespace Go.Proofs.Ytgbogdckmfencaa
open Go Go.RowKit
theorem fd_cell {g : Nat} {w : World} (h : Fd g w) {a : Addr} {v : Value} (hc : w.cell? a = some v) (hv : ∀ x, v ≠ .int .u64 x) : a.block ≠ g := by
  intro e
  obtain ⟨x, _, _, hx⟩ := h
  unfold Bx at hx
  unfold World.cell? at hc
  rw [e, hx] at hc
  dsimp only at hc
  split at hc
  · cases hc
  · match hq : a.off with
    | 0 => rw [hq] at hc; exact hv x (by simpa using hc.symm)
    | k + 1 => rw [hq] at hc; simp at hc
theorem Sl.ft {g s : Nat} {V w' : World} {B : Nat} {A : Option Addr} {xs : List (List Value)} (h : Sl V B s A xs) (hf : Fd g V) (k : V.grownBy w' (some g)) (hx : ∀ r ∈ xs, ∀ u ∈ r, ∀ x, u ≠ .int .u64 x) : Sl w' B s A xs := fun i r hr => by
  obtain ⟨ad, h1, h2, h3⟩ := h i r hr
  exact ⟨ad, h1, h2, fun j u hu => k.cell (h3 j u hu) (by simpa using fd_cell hf (h3 j u hu) (hx r (List.mem_of_getElem? hr) u (List.mem_of_getElem? hu)))⟩
theorem ints_no (l : List Int) : ∀ r ∈ ints l, ∀ u ∈ r, ∀ x, u ≠ .int .u64 x := by
  intro r hr u hu x h
  unfold ints at hr
  obtain ⟨a, _, rfl⟩ := List.mem_map.1 hr
  obtain rfl : u = .int .i64 a := by simpa using hu
  simp at h
theorem evs_no (es : List Ev) : ∀ r ∈ es.map Ev.cells, ∀ u ∈ r, ∀ x, u ≠ .int .u64 x := by
  intro r hr u hu x h
  obtain ⟨e, _, rfl⟩ := List.mem_map.1 hr
  subst h
  simp [Ev.cells] at hu
theorem own_evs2 {w : World} {b n c : Nat} {A : Option Addr} {es : List Ev} (h : w.ownsRow b 28 5 (.slice A n c) n (es.map Ev.cells).flatten) (hl : es.length = n) : EvsAt w w.heap.size A es := by
  obtain ⟨A', c', he, hs⟩ := own_sl h (evs_len es) (by rw [List.length_map]; exact hl)
  simp only [Value.slice.injEq] at he
  rw [he.1]
  exact hs
theorem sl_drop {w : World} {B : Nat} {ad : Addr} {l : List Int} (h : Sl w B 1 (some ad) (ints l)) (i : Nat) : Sl w B 1 (some (ad.add i)) (ints (l.drop i)) := fun k r hr => by
  have hr' : (ints l)[i + k]? = some r := by
    unfold ints at hr ⊢
    rw [List.map_drop, List.getElem?_drop] at hr
    exact hr
  obtain ⟨a', h1, h2, h3⟩ := h _ _ hr'
  simp only [Option.some.injEq] at h1
  subst h1
  refine ⟨_, rfl, by rw [add_block]; exact h2, ?_⟩
  rw [add_add]
  rw [Nat.mul_one] at h3 ⊢
  exact h3
theorem part_any (a b c d : Int) (w : World) : Calls Try.prog 50 #[.agg #[.int .i64 a, .int .i64 b], .agg #[.int .i64 c, .int .i64 d]] w fun e w' => e = .returned (.bool (decide (c ≤ a ∧ b ≤ d))) ∧ Below w.heap.size w w' := by
  by_cases h1 : c ≤ a
  · go_enter Try.func50, Try.ntmps50
    go_wp2
    go_ret
    exact ⟨ret_bool (by simp [h1]), ((Below.refl _ _).alloc (Nat.le_refl _) _).alloc (by simp) _⟩
  · go_enter Try.func50, Try.ntmps50
    go_wp2
    go_ret
    exact ⟨ret_bool (by simp; omega), ((Below.refl _ _).alloc (Nat.le_refl _) _).alloc (by simp) _⟩
theorem SpOk.takeDrop {l : List Int} {a j : Nat} {F B : List Int} (h : SpOk l a j F B) (i k : Nat) : SpOk l a j (F.take i) (B.take k) ∧ SpOk l a j (F.drop i) (B.drop k) :=
  ⟨⟨h.fa.sublist (List.take_sublist _ _), h.ba.sublist (List.take_sublist _ _), fun x hx => h.fm x (List.mem_of_mem_take hx), fun x hx => h.bm x (List.mem_of_mem_take hx), by rw [List.length_take]; have := h.fl; omega, by rw [List.length_take]; have := h.bl; omega, fun x hx hb => h.ap x (List.mem_of_mem_take hx) (List.mem_of_mem_take hb)⟩,
   ⟨h.fa.sublist (List.drop_sublist _ _), h.ba.sublist (List.drop_sublist _ _), fun x hx => h.fm x (List.mem_of_mem_drop hx), fun x hx => h.bm x (List.mem_of_mem_drop hx), by rw [List.length_drop]; have := h.fl; omega, by rw [List.length_drop]; have := h.bl; omega, fun x hx hb => h.ap x (List.mem_of_mem_drop hx) (List.mem_of_mem_drop hb)⟩⟩
theorem asc_apart {F : List Int} (h : F.Pairwise (· < ·)) (i : Nat) : ∀ x ∈ F.take i, x ∉ F.drop i := by
  intro x hx hd
  have := h
  rw [← List.take_append_drop i F, List.pairwise_append] at this
  have := this.2.2 x hx x hd
  omega
end Go.Proofs.Ytgbogdckmfencaa
