/- swarfkit.LogOf. -/
import Derived.Test.YtgbogdckmfencaaOw
import Derived.Test.YtgbogdckmfencaaMd
import Derived.Test.YtgbogdckmfencaaLp
set_option linter.unusedSimpArgs false
set_option linter.unusedVariables false
namespace Go.Proofs.Ytgbogdckmfencaa
open Go.RowKit
theorem own_shape {w : World} {b : Nat} {e : TypeId} {s : Nat} {v : Value} {n : Nat} {xs : List Value} (h : w.ownsRow b e s v n xs) : ∃ A c, v = .slice A n c := by
  rcases h.2 with ⟨rfl, rfl⟩ | ⟨g, cap, cur, rfl, _⟩
  · exact ⟨none, 0, rfl⟩
  · exact ⟨_, _, rfl⟩
theorem apart_symm {a b : Option Nat} (h : a = none ∨ a ≠ b) : b = none ∨ b ≠ a := by
  rcases h with h | h
  · cases b with
    | none => exact .inl rfl
    | some k => exact .inr (by rw [h]; simp)
  · exact .inr fun e => h e.symm
theorem FT.alloc {g : Nat} {V x : World} (h : FT g V x) (o : Obj) : FT g V (x.alloc o) := h.step (FK.alloc g _ _)
theorem FT.call {g : Nat} {V x y : World} (h : FT g V x) (hg : x.grownBy y (some g)) (hf : Fd g y) : FT g V y := ⟨grown_trans h.1 hg, hf⟩
theorem FT.set_ {g b : Nat} {V x : World} (h : FT g V x) (hb : V.heap.size ≤ b) (hg : g ≠ b) (o : Nat) (u : Value) : FT g V (x.setCell ⟨b, o, none⟩ u) := ⟨grown_new h.1 hb u, h.2.far hg u⟩
theorem FT.size {g : Nat} {V x : World} (h : FT g V x) : V.heap.size ≤ x.heap.size := h.1.size
/-- Between two rounds of LogOf's loop. -/
structure LInv (g : Nat) (m ld : Int) (ones : Bool) (z0 z1 : Int) (w : World) (bL bF : Nat) (st z i : Int) (ts : List (Ev × Int × Int)) (ev zv nv : Value) (wr : World) : Prop where
  i0 : 0 ≤ i
  im : (ts.length : Int) + i ≤ m
  s1 : 1 ≤ st
  s2 : st ≤ 20
  s3 : ones = true → st = 1
  md : Made st z0 z1 ld ts z
  kL : Bx wr bL 26 #[.int .i64 st, .int .i64 z0, .int .i64 z1, ev]
  kF : Bx wr bF 32 #[zv, nv]
  oe : wr.ownsRow w.heap.size 28 5 ev ts.length ((evsOf ts).map Ev.cells).flatten
  oz : wr.ownsRow w.heap.size 3 1 zv ts.length (ints (ts.map (·.2.1))).flatten
  on : wr.ownsRow w.heap.size 3 1 nv ts.length (ints (ts.map (·.2.2))).flatten
  ap : zv.ownBlock = none ∨ zv.ownBlock ≠ nv.ownBlock
  k8 : Bx wr w.heap.size 26 #[.int .i64 0, .int .i64 0, .int .i64 0, .slice none 0 0]
  k9 : Bx wr (w.heap.size + 1) 32 #[.slice none 0 0, .slice none 0 0]
  fd : Fd g wr
  gr : w.grownBy wr (some g)
theorem LInv.ft {g : Nat} {m ld : Int} {ones : Bool} {z0 z1 : Int} {w : World} {bL bF : Nat} {st z i : Int} {ts : List (Ev × Int × Int)} {ev zv nv : Value} {wr x : World} (I : LInv g m ld ones z0 z1 w bL bF st z i ts ev zv nv wr) (h : FT g wr x) (hg : g < w.heap.size) (hL : w.heap.size ≤ bL) (hF : w.heap.size ≤ bF) : LInv g m ld ones z0 z1 w bL bF st z i ts ev zv nv x := by
  have ne : ∀ {v : Value} {e s n : Nat} {xs : List Value}, wr.ownsRow w.heap.size e s v n xs → v.ownBlock = none ∨ v.ownBlock ≠ some g := fun {v e s n xs} ho => .inr fun hk => by have := ho.lt g hk; omega
  exact ⟨I.i0, I.im, I.s1, I.s2, I.s3, I.md, h.bx I.kL (by omega), h.bx I.kF (by omega), I.oe.kept h.1 (ne I.oe), I.oz.kept h.1 (ne I.oz), I.on.kept h.1 (ne I.on), I.ap, h.bx I.k8 (by omega), h.bx I.k9 (by omega), h.2, grown_trans I.gr h.1⟩
end Go.Proofs.Ytgbogdckmfencaa
