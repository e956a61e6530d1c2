/- bridge.weigher: the function value that it hands back, over the boxes of the log and of the map. -/
import Derived.Test.YtgbogdckmfencaaCs
import Derived.Test.YtgbogdckmfencaaIt
set_option linter.unusedSimpArgs false
set_option linter.unusedVariables false
namespace Go.Proofs.Ytgbogdckmfencaa
open Go.RowKit Go.Maps
attribute [local go_sem ↓] Go.wp_at_zero Go.wp_at_succ
/-- What weigher hands back: a function value over the box of the log and the box of the map. -/
def WeigherPost (A : Option Addr) (n c : Nat) (st z0 z1 : Int) (F B : List Int) (w : World) (e : Ending) (w' : World) : Prop :=
  (∃ gl gm m, e = .returned (.func (.func 97) #[] #[.pointer (some ⟨gl, 0, none⟩), .pointer (some ⟨gm, 0, none⟩)]) ∧ w.heap.size ≤ gl ∧ w.heap.size ≤ gm ∧ Bx w' gl 26 #[.int .i64 st, .int .i64 z0, .int .i64 z1, .slice A n c] ∧ Bx w' gm 113 #[.map (some m)] ∧ w'.ownsMap Try.prog 3 (plainElem Try.prog 3) m 8 (wmap F B)) ∧ Below w.heap.size w w'
set_option maxHeartbeats 1000000 in
theorem weigher_any (st z0 z1 : Int) (A : Option Addr) (n c : Nat) (FA : Option Addr) (fn fc : Nat) (BA : Option Addr) (bn bc : Nat) (fs bs d0 d1 : Int) (F B : List Int) (w : World) (hf : F.length = fn) (hb : B.length = bn) (hfn : fn ≤ 4) (hbn : bn ≤ 4)
    (hF : Sl w w.heap.size 1 FA (ints F)) (hB : Sl w w.heap.size 1 BA (ints B)) (hF1 : ∀ x ∈ F, 0 ≤ x ∧ x ≤ 14) (hB1 : ∀ x ∈ B, 0 ≤ x ∧ x ≤ 14) :
    Calls Try.prog 70 #[.agg #[.int .i64 st, .int .i64 z0, .int .i64 z1, .slice A n c], .agg #[.slice FA fn fc, .slice BA bn bc, .int .i64 fs, .int .i64 bs, .int .i64 d0, .int .i64 d1]] w (WeigherPost A n c st z0 z1 F B w) := by
  have HF := Lib.hid hf
  have HBn := Lib.hid hb
  have HF1 := Lib.hid hF1
  have HB1 := Lib.hid hB1
  clear hf hb hF1 hB1
  have hB0 := ((Below.refl w.heap.size w).alloc (Nat.le_refl _) (.cells #[.int .i64 st, .int .i64 z0, .int .i64 z1, .slice A n c] 26)).alloc (by simp) (.cells #[.slice FA fn fc, .slice BA bn bc, .int .i64 fs, .int .i64 bs, .int .i64 d0, .int .i64 d1] 50)
  have k1 := (Bx.new w 26 #[.int .i64 st, .int .i64 z0, .int .i64 z1, .slice A n c]).alloc (.cells #[.slice FA fn fc, .slice BA bn bc, .int .i64 fs, .int .i64 bs, .int .i64 d0, .int .i64 d1] 50)
  have HK := Lib.hid k1
  have HB0 := Lib.hid hB0
  clear k1 hB0
  go_enter Try.func70, Try.ntmps70
  go_wp2_with (go_at_call 76; refine (wanted_any FA fn fc BA bn bc fs bs d0 d1 F B _ HF.out HBn.out hfn hbn ((hF.below HB0.out).more HB0.out.size) ((hB.below HB0.out).more HB0.out.size) HF1.out HB1.out).mono ?_; rintro e w1 ⟨rfl, hown, hb⟩; have k1 := HK.out.call hb; have hBB := HB0.out.trans (hb.mono HB0.out.size))
  go_ret
  refine ⟨⟨_, _, _, rfl, ?_, ?_, k1.alloc _, Bx.new w1 113 _, by simpa using hown.alloc _⟩, hBB.alloc hBB.size _⟩
  · exact Nat.le_refl _
  · exact hBB.size
end Go.Proofs.Ytgbogdckmfencaa
