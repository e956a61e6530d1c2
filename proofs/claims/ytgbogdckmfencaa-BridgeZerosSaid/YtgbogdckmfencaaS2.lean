/- Small functions of bridge: drivers, clean, better, numbers. -/
import Derived.Test.YtgbogdckmfencaaSh
import Derived.Test.YtgbogdckmfencaaBox
import Derived.Test.YtgbogdckmfencaaMath
import Derived.Test.YtgbogdckmfencaaReg
set_option linter.unusedSimpArgs false
set_option linter.unusedVariables false
namespace Go.Proofs.Ytgbogdckmfencaa
open Go.RowKit
attribute [local go_sem ↓] Go.wp_at_zero Go.wp_at_succ
def drLo (s : Int) : Int := if s = 1 then 1 else 0
def drHi (s : Int) : Int := if s = 1 ∨ s = 2 then 1 else 0
theorem drivers_w (s : Int) (w : World) :
    Calls Try.prog 100 #[.int .i64 s] w fun e w' => e = .returned (.agg #[.int .i64 (drLo s), .int .i64 (drHi s)]) ∧ w.alloc (.cells #[.int .i64 (drLo s), .int .i64 (drHi s)] 23) = w' := by
  by_cases h1 : s = 1
  · subst h1
    go_enter Try.func100, Try.ntmps100
    go_wp2
    exact bodyPost_ret (v := .agg #[.int .i64 (drLo 1), .int .i64 (drHi 1)]) (by simp [results, Try.results100, go_sem, drLo, drHi]) rfl ⟨rfl, by simp [drLo, drHi]⟩
  · by_cases h2 : s = 2
    · subst h2
      go_enter Try.func100, Try.ntmps100
      go_wp2
      exact bodyPost_ret (v := .agg #[.int .i64 (drLo 2), .int .i64 (drHi 2)]) (by simp [results, Try.results100, go_sem, drLo, drHi]) rfl ⟨rfl, by simp [drLo, drHi]⟩
    · go_enter Try.func100, Try.ntmps100
      go_wp2
      exact bodyPost_ret (v := .agg #[.int .i64 (drLo s), .int .i64 (drHi s)]) (by simp [results, Try.results100, go_sem, drLo, drHi, h1, h2]) rfl ⟨rfl, by simp [drLo, drHi, h1, h2]⟩
theorem lessW_any (a b c d : Int) (w : World) :
    Calls Try.prog 81 #[.agg #[.int .i64 a, .int .i64 b], .agg #[.int .i64 c, .int .i64 d]] w fun e w' => e = .returned (.bool (decide (b < d))) ∧ Below w.heap.size w w' := by
  go_enter Try.func81, Try.ntmps81
  go_wp2
  go_ret
  exact ⟨rfl, ((Below.refl _ _).alloc (Nat.le_refl _) _).alloc (by simp) _⟩
theorem numbers_any (a b : Int) (w : World) :
    Calls Try.prog 94 #[.agg #[.int .i64 a, .int .i64 b]] w fun e w' => e = .returned (.func (.func 105) #[] #[.pointer (some ⟨w.heap.size, 0, none⟩)]) ∧ w.alloc (.cells #[.int .i64 a, .int .i64 b] 23) = w' := by
  go_enter Try.func94, Try.ntmps94
  go_wp2
  go_ret
  exact ⟨rfl, rfl⟩
def better2 (a b c d : Int) : Value := if d < b then .agg #[.int .i64 c, .int .i64 d] else .agg #[.int .i64 a, .int .i64 b]
theorem better_any (a b c d : Int) (w : World) :
    Calls Try.prog 84 #[.agg #[.int .i64 a, .int .i64 b], .agg #[.int .i64 c, .int .i64 d], .func (.func 81) #[] #[]] w fun e w' => e = .returned (better2 a b c d) ∧ Below w.heap.size w w' := by
  by_cases h : d < b
  · go_enter Try.func84, Try.ntmps84
    go_wp2_with (go_at_call 81; refine (lessW_any _ _ _ _ _).mono ?_; rintro e w1 ⟨rfl, hb⟩; have p2 := ((Bx.at (w.alloc (.cells #[.int .i64 a, .int .i64 b] 119)) 119 #[.int .i64 c, .int .i64 d] (n := w.heap.size + 1) (by simp)).alloc _).call hb; have p3 := (Bx.at ((w.alloc (.cells #[.int .i64 a, .int .i64 b] 119)).alloc (.cells #[.int .i64 c, .int .i64 d] 119)) 119 _ (n := w.heap.size + 1 + 1) (by simp)).call hb; obtain ⟨s0, s1, sf, sz⟩ := p2.two; obtain ⟨r0, r1, rf, rz⟩ := p3.two)
    refine bodyPost_ret (v := better2 a b c d) (by simp [results, Try.results84, go_sem, better2, h, r0, r1, World.cell?_setCell_same', World.cell?_setCell_other]) rfl ⟨rfl, ?_⟩
    exact Below.setCell (Below.setCell (((((Below.refl _ _).alloc (Nat.le_refl _) _).alloc (by simp) _).alloc (by simp; omega) _).trans (hb.mono (by simp; omega))) (by simp; omega) _) (by simp; omega) _
  · go_enter Try.func84, Try.ntmps84
    go_wp2_with (go_at_call 81; refine (lessW_any _ _ _ _ _).mono ?_; rintro e w1 ⟨rfl, hb⟩; have p2 := (((Bx.new w 119 #[.int .i64 a, .int .i64 b]).alloc _).alloc _).call hb; have p3 := (Bx.at ((w.alloc (.cells #[.int .i64 a, .int .i64 b] 119)).alloc (.cells #[.int .i64 c, .int .i64 d] 119)) 119 _ (n := w.heap.size + 1 + 1) (by simp)).call hb; obtain ⟨s0, s1, sf, sz⟩ := p2.two; obtain ⟨r0, r1, rf, rz⟩ := p3.two)
    refine bodyPost_ret (v := .agg #[.int .i64 a, .int .i64 b]) (by simp [results, Try.results84, go_sem, r0, r1, World.cell?_setCell_same', World.cell?_setCell_other]) rfl ⟨by unfold better2; rw [if_neg (by omega)], ?_⟩
    exact Below.setCell (Below.setCell (((((Below.refl _ _).alloc (Nat.le_refl _) _).alloc (by simp) _).alloc (by simp; omega) _).trans (hb.mono (by simp; omega))) (by simp; omega) _) (by simp; omega) _
end Go.Proofs.Ytgbogdckmfencaa
