/- Slips that are made: the axles of a log, some of them full, the others bare. Nothing of the program. -/
import Derived.Test.YtgbogdckmfencaaNh
import Derived.Test.YtgbogdckmfencaaLo
import Derived.Test.YtgbogdckmfencaaAk
import Derived.Test.YtgbogdckmfencaaFi
import Derived.Deep.CutBlock
import Derived.Deep.CutRange
set_option linter.unusedSimpArgs false
set_option linter.unusedVariables false
namespace Go.Proofs.Ytgbogdckmfencaa
/-- An event of a load. -/
def ldAt (es : List Ev) (x : Int) : Prop := 0 ≤ x ∧ x < (es.length : Int) ∧ kdAt es x = 3
/-- Loads up to an event, ascending. -/
structure AtOk (es : List Ev) (i : Nat) (l : List Int) : Prop where
  asc : l.Pairwise (· < ·)
  mem : ∀ x ∈ l, ldAt es x ∧ x < (i : Int)
theorem AtOk.nil (es : List Ev) : AtOk es 0 [] := ⟨List.Pairwise.nil, fun x hx => by cases hx⟩
theorem AtOk.skip {es : List Ev} {i : Nat} {l : List Int} (h : AtOk es i l) : AtOk es (i + 1) l := ⟨h.asc, fun x hx => ⟨(h.mem x hx).1, by have := (h.mem x hx).2; omega⟩⟩
theorem AtOk.take {es : List Ev} {i : Nat} {l : List Int} (h : AtOk es i l) (hi : i < es.length) (hk : es[i].kd = 3) : AtOk es (i + 1) (l ++ [(i : Int)]) := by
  refine ⟨?_, fun x hx => ?_⟩
  · rw [List.pairwise_append]
    exact ⟨h.asc, List.pairwise_singleton _ _, fun a ha b hb => by
      obtain rfl : b = (i : Int) := by simpa using hb
      exact (h.mem a ha).2⟩
  · rcases List.mem_append.1 hx with hx | hx
    · exact ⟨(h.mem x hx).1, by have := (h.mem x hx).2; omega⟩
    · obtain rfl : x = (i : Int) := by simpa using hx
      refine ⟨⟨by omega, by omega, ?_⟩, by omega⟩
      unfold kdAt
      rw [Int.toNat_natCast, List.getElem?_eq_getElem hi]
      exact hk
/-- Some of the first j axles of a list are full, some bare. -/
structure SpOk (l : List Int) (a j : Nat) (F B : List Int) : Prop where
  fa : F.Pairwise (· < ·)
  ba : B.Pairwise (· < ·)
  fm : ∀ x ∈ F, x ∈ l.take j
  bm : ∀ x ∈ B, x ∈ l.take j
  fl : F.length ≤ a
  bl : B.length ≤ a
  ap : ∀ x ∈ F, x ∉ B
theorem SpOk.nil (l : List Int) (a : Nat) : SpOk l a 0 [] [] := ⟨.nil, .nil, (fun x h => by cases h), (fun x h => by cases h), Nat.zero_le _, Nat.zero_le _, (fun x h => by cases h)⟩
theorem asc_split {B : List Int} (h : B.Pairwise (· < ·)) : ∀ x ∈ B.take 1, x ∉ B.drop 1 := by
  intro x hx hd
  cases B with
  | nil => simp at hx
  | cons b r =>
    obtain rfl : x = b := by simpa using hx
    have hd' : x ∈ r := by simpa using hd
    have := (List.pairwise_cons.1 h).1 x hd'
    omega
theorem SpOk.split {l : List Int} {a j : Nat} {B : List Int} (h : SpOk l a j [] B) (ha : 1 ≤ a) : SpOk l a j (B.take 1) (B.drop 1) :=
  ⟨h.ba.sublist (List.take_sublist _ _), h.ba.sublist (List.drop_sublist _ _), fun x hx => h.bm x (List.mem_of_mem_take hx), fun x hx => h.bm x (List.mem_of_mem_drop hx), by rw [List.length_take]; omega, by rw [List.length_drop]; have := h.bl; omega, asc_split h.ba⟩
end Go.Proofs.Ytgbogdckmfencaa

/-! swarfkit.SlipOf. -/
namespace Go.Proofs.Ytgbogdckmfencaa
open Go Go.RowKit
section
variable {P : Program} {ops : Array Oper} {Q : Exit → Act → World → Prop} {md : Region.Mode} {S : World → Prop} {G : Nat → Bool}
end
def Ap (u v : Value) : Prop := u.ownBlock = none ∨ u.ownBlock ≠ v.ownBlock
theorem Ap.nil (u : Value) : Ap u (.slice none 0 0) := by
  unfold Ap
  cases u.ownBlock <;> simp [Value.ownBlock]
theorem Ap.symm {u v : Value} (h : Ap u v) : Ap v u := apart_symm h
theorem Ap.new {u v v' : Value} {N : Nat} (h : Ap u v) (ho : v'.ownBlock = v.ownBlock ∨ ∀ k, v'.ownBlock = some k → N ≤ k) (hu : ∀ k, u.ownBlock = some k → k < N) : Ap u v' := by
  unfold Ap at *
  rcases ho with ho | ho
  · rw [ho]; exact h
  · cases hk : u.ownBlock with
    | none => exact .inl rfl
    | some k => exact .inr fun e => by have := ho k e.symm; have := hu k hk; omega
/-- Between two rounds of SlipOf's second loop. -/
structure SI (g a : Nat) (l : List Int) (w : World) (bR bS : Nat) (v8 : Value) (fs bs d0 d1 : Int) (j : Nat) (F B : List Int) (fv bv : Value) (wr : World) : Prop where
  sp : SpOk l a j F B
  sum : F.length + B.length = j
  jl : j ≤ l.length
  kS : Bx wr bS 50 #[fv, bv, .int .i64 fs, .int .i64 bs, .int .i64 d0, .int .i64 d1]
  kR : Bx wr bR 50 #[.slice none 0 0, .slice none 0 0, .int .i64 0, .int .i64 0, .int .i64 0, .int .i64 0]
  oa : wr.ownsRow w.heap.size 3 1 v8 l.length (ints l).flatten
  of : wr.ownsRow w.heap.size 3 1 fv F.length (ints F).flatten
  ob : wr.ownsRow w.heap.size 3 1 bv B.length (ints B).flatten
  a1 : Ap v8 fv
  a2 : Ap v8 bv
  a3 : Ap fv bv
  fd : Fd g wr
  gr : w.grownBy wr (some g)
theorem SI.ft {g a : Nat} {l : List Int} {w : World} {bR bS : Nat} {v8 : Value} {fs bs d0 d1 : Int} {j : Nat} {F B : List Int} {fv bv : Value} {wr x : World} (I : SI g a l w bR bS v8 fs bs d0 d1 j F B fv bv wr) (h : FT g wr x) (hg : g < w.heap.size) (hR : w.heap.size ≤ bR) (hS : w.heap.size ≤ bS) : SI g a l w bR bS v8 fs bs d0 d1 j F B fv bv x := by
  have ne : ∀ {v : Value} {n : Nat} {xs : List Value}, wr.ownsRow w.heap.size 3 1 v n xs → v.ownBlock = none ∨ v.ownBlock ≠ some g := fun {v n xs} ho => .inr fun hk => by have := ho.lt g hk; omega
  exact ⟨I.sp, I.sum, I.jl, h.bx I.kS (by omega), h.bx I.kR (by omega), I.oa.kept h.1 (ne I.oa), I.of.kept h.1 (ne I.of), I.ob.kept h.1 (ne I.ob), I.a1, I.a2, I.a3, h.2, grown_trans I.gr h.1⟩
theorem gr_own {w x y : World} {row own : Option Nat} (g : w.grownBy x row) (h : x.grownBy y own) (ho : ∀ k, own = some k → w.heap.size ≤ k) : w.grownBy y row :=
  ⟨h.os.trans g.os, h.tape.trans g.tape, h.output.trans g.output, Nat.le_trans g.size h.size, fun k hk hn => (h.block k (Nat.lt_of_lt_of_le hk g.size) (fun e => by have := ho k e.symm; omega)).trans (g.block k hk hn)⟩
end Go.Proofs.Ytgbogdckmfencaa

/-! What a feed leaves, rows cut short, Part. -/
namespace Go.Proofs.Ytgbogdckmfencaa
open Go Go.RowKit
theorem fd_cell {g : Nat} {w : World} (h : Fd g w) {a : Addr} {v : Value} (hc : w.cell? a = some v) (hv : ∀ x, v ≠ .int .u64 x) : a.block ≠ g := by
  intro e
  obtain ⟨x, _, _, hx⟩ := h
  unfold Bx at hx
  unfold World.cell? at hc
  rw [e, hx] at hc
  dsimp only at hc
  split at hc
  · cases hc
  · match hq : a.off with
    | 0 => rw [hq] at hc; exact hv x (by simpa using hc.symm)
    | k + 1 => rw [hq] at hc; simp at hc
theorem Sl.ft {g s : Nat} {V w' : World} {B : Nat} {A : Option Addr} {xs : List (List Value)} (h : Sl V B s A xs) (hf : Fd g V) (k : V.grownBy w' (some g)) (hx : ∀ r ∈ xs, ∀ u ∈ r, ∀ x, u ≠ .int .u64 x) : Sl w' B s A xs := fun i r hr => by
  obtain ⟨ad, h1, h2, h3⟩ := h i r hr
  exact ⟨ad, h1, h2, fun j u hu => k.cell (h3 j u hu) (by simpa using fd_cell hf (h3 j u hu) (hx r (List.mem_of_getElem? hr) u (List.mem_of_getElem? hu)))⟩
theorem own_evs2 {w : World} {b n c : Nat} {A : Option Addr} {es : List Ev} (h : w.ownsRow b 28 5 (.slice A n c) n (es.map Ev.cells).flatten) (hl : es.length = n) : EvsAt w w.heap.size A es := by
  obtain ⟨A', c', he, hs⟩ := own_sl h (evs_len es) (by rw [List.length_map]; exact hl)
  simp only [Value.slice.injEq] at he
  rw [he.1]
  exact hs
end Go.Proofs.Ytgbogdckmfencaa
