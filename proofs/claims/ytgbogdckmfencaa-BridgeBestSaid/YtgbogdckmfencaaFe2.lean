/- The numbers of a feed: within bounds, one of some. -/
import Derived.Test.YtgbogdckmfencaaFe
set_option linter.unusedSimpArgs false
set_option linter.unusedVariables false
namespace Go.Proofs.Ytgbogdckmfencaa
open Go.RowKit

theorem Fd.alloc {g : Nat} {w : World} (h : Fd g w) (o : Obj) : Fd g (w.alloc o) := by obtain ⟨x, h1, h2, h3⟩ := h; exact ⟨x, h1, h2, h3.alloc o⟩
theorem Fd.far {g : Nat} {w : World} (h : Fd g w) {p : Addr} (hp : g ≠ p.block) (u : Value) : Fd g (w.setCell p u) := by obtain ⟨x, h1, h2, h3⟩ := h; exact ⟨x, h1, h2, h3.far hp u⟩
theorem Fd.drew {g : Nat} {w : World} (h : Fd g w) : Fd g w.drew := h
theorem Fd.lt {g : Nat} {w : World} (h : Fd g w) : g < w.heap.size := by obtain ⟨x, _, _, h3⟩ := h; exact h3.lt
theorem grown_alloc {a b : World} {row : Option Nat} (h : a.grownBy b row) (o : Obj) : a.grownBy (b.alloc o) row := grown_trans h (World.grownBy_alloc b o row)
theorem grown_new {a b : World} {row : Option Nat} (h : a.grownBy b row) {g o : Nat} (hg : a.heap.size ≤ g) (u : Value) : a.grownBy (b.setCell ⟨g, o, none⟩ u) row := ⟨h.os, h.tape, h.output, by simpa [World.setCell] using h.size, fun k hk hn => (Below.heap_setCell _ _ _ _ (by simp only; omega)).trans (h.block k hk hn)⟩
set_option maxHeartbeats 2000000 in
theorem below_any (g : Nat) (n : Int) (w : World) (h : Fd g w) (hn : -9223372036854775808 ≤ n) (hn2 : n ≤ 9223372036854775807) : Calls Try.prog 47 #[.pointer (some ⟨g, 0, none⟩), .int .i64 n] w fun e w' => (∃ r : Int, e = .returned (.int .i64 r) ∧ 0 ≤ r ∧ (r < n ∨ r = 0)) ∧ Fd g w' ∧ w.grownBy w' (some g) := by
  by_cases hlt : n < 2
  · go_enter Try.func47, Try.ntmps47
    go_wp2_with fail
    go_ret
    exact ⟨⟨0, rfl, by omega, .inr rfl⟩, h, grown_refl _ _⟩
  · have hw : IntKind.u64.wrap n = n := by unfold IntKind.wrap; simp [IntKind.signed, IntKind.bits]; omega
    go_enter Try.func47, Try.ntmps47
    go_wp2_with (go_at_call 57; refine (next_any g _ h).mono ?_; rintro e w1 ⟨⟨y, rfl, hy1, hy2⟩, hfd, hgr⟩)
    go_ret
    have h1 := Int.emod_nonneg (y / 256) (show n ≠ 0 by omega)
    have h2 := Int.emod_lt_of_pos (y / 256) (show 0 < n by omega)
    refine ⟨⟨y / 256 % n, ?_, h1, .inl h2⟩, hfd, hgr⟩
    exact ret_int (IntWalk.wrap64_in _ (by omega))
set_option maxHeartbeats 2000000 in
theorem between_any (g : Nat) (lo hi : Int) (w : World) (h : Fd g w) (h1 : -1000000000 ≤ lo) (h2 : lo ≤ 1000000000) (h3 : -1000000000 ≤ hi) (h4 : hi ≤ 1000000000) : Calls Try.prog 49 #[.pointer (some ⟨g, 0, none⟩), .int .i64 lo, .int .i64 hi] w fun e w' => (∃ r : Int, e = .returned (.int .i64 r) ∧ lo ≤ r ∧ (r ≤ hi ∨ r = lo)) ∧ Fd g w' ∧ w.grownBy w' (some g) := by
  go_enter Try.func49, Try.ntmps49
  go_wp2_with (go_at_call 47; refine (below_any g _ _ h (by omega) (by omega)).mono ?_; rintro e w1 ⟨⟨y, rfl, hy1, hy2⟩, hfd, hgr⟩)
  go_ret
  refine ⟨⟨lo + y, rfl, by omega, by omega⟩, hfd, hgr⟩
set_option maxHeartbeats 2000000 in
theorem often_any (g : Nat) (n m : Int) (w : World) (h : Fd g w) (h1 : -1000000000 ≤ m) (h2 : m ≤ 1000000000) : Calls Try.prog 37 #[.pointer (some ⟨g, 0, none⟩), .int .i64 n, .int .i64 m] w fun e w' => (∃ b : Bool, e = .returned (.bool b)) ∧ Fd g w' ∧ w.grownBy w' (some g) := by
  go_enter Try.func37, Try.ntmps37
  go_wp2_with (go_at_call 47; refine (below_any g _ _ h (by omega) (by omega)).mono ?_; rintro e w1 ⟨⟨y, rfl, hy1, hy2⟩, hfd, hgr⟩)
  go_ret
  exact ⟨⟨_, rfl⟩, hfd, hgr⟩
set_option maxHeartbeats 2000000 in
theorem either_any (g b n : Nat) (cs : Array Value) (P : Int → Prop) (w : World) (h : Fd g w) (hb : Bx w b 3 cs) (hne : b ≠ g) (hn : 1 ≤ n) (hn2 : n ≤ 100) (hcs : ∀ i, i < n → ∃ x, cs[i]? = some (.int .i64 x) ∧ P x) :
    Calls Try.prog 40 #[.pointer (some ⟨g, 0, none⟩), .slice (some ⟨b, 0, none⟩) n n] w fun e w' => (∃ r : Int, e = .returned (.int .i64 r) ∧ P r) ∧ Fd g w' ∧ w.grownBy w' (some g) := by
  have HCS := Lib.hid hcs
  clear hcs
  go_enter Try.func40, Try.ntmps40
  go_wp2_with (go_at_call 47; refine (below_any g _ _ h (by omega) (by omega)).mono ?_; rintro e w1 ⟨⟨y, rfl, hy1, hy2⟩, hfd, hgr⟩; obtain ⟨k, rfl⟩ := Int.eq_ofNat_of_zero_le hy1; have hk : k < n := (by omega); have kb := hb.grown hgr (by simpa using hne); obtain ⟨x, hx, hp⟩ := HCS.out k hk; have HP := Lib.hid hp; clear hp; have c0 := (kb.cell k).trans hx; have cf := kb.free; have cz := kb.lt; clear hx)
  go_ret
  exact ⟨⟨x, rfl, HP.out⟩, hfd, hgr⟩
end Go.Proofs.Ytgbogdckmfencaa
