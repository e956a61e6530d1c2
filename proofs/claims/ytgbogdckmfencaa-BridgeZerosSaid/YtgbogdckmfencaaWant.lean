/- bridge.isSeat and wantedEvents: the map holds 1 for each event of Full and -1 for each one of Bare. -/
import Derived.Test.YtgbogdckmfencaaAx
import Derived.Test.YtgbogdckmfencaaCopy
import Derived.Maps.Own
import Derived.Maps.OwnOps
import Derived.Maps.OwnSet
set_option linter.unusedSimpArgs false
set_option linter.unusedVariables false
namespace Go.Proofs.Ytgbogdckmfencaa
open Go.RowKit Go.Maps
def putAll (v : Int) (m : DataW Unit) (l : List Int) : DataW Unit := l.foldl (fun m x => m.put (.int .i64 x) (.lit (.int .i64 v))) m
def wmap (F B : List Int) : DataW Unit := putAll (-1) (putAll 1 (.map []) F) B
theorem putAll_snoc (v : Int) (m : DataW Unit) (l : List Int) (x : Int) : putAll v m (l ++ [x]) = (putAll v m l).put (.int .i64 x) (.lit (.int .i64 v)) := by simp [putAll]
theorem isSeat_any (s : Int) (w : World) : Calls Try.prog 77 #[.int .i64 s] w fun e w' => e = .returned (.bool (decide (0 ≤ s ∧ s ≤ 2))) ∧ w = w' := by
  go_enter Try.func77, Try.ntmps77
  go_wp2
  all_goals
    go_ret
    refine ⟨ret_bool ?_, rfl⟩
    rw [Bool.eq_iff_iff]
    simp
    try omega
theorem take_snoc' {l : List Int} {k : Nat} (hk : k < l.length) : l.take (k + 1) = l.take k ++ [l[k]] := by rw [List.take_succ_eq_append_getElem hk]
theorem keyed3 : Keyed Try.prog 3 := int_keyed Try.underlying3
set_option maxHeartbeats 1000000 in
theorem wanted_any (FA : Option Addr) (fn fc : Nat) (BA : Option Addr) (bn bc : Nat) (fs bs d0 d1 : Int) (F B : List Int) (w : World) (hf : F.length = fn) (hb : B.length = bn) (hfn : fn ≤ 4) (hbn : bn ≤ 4)
    (hF : Sl w w.heap.size 1 FA (ints F)) (hB : Sl w w.heap.size 1 BA (ints B)) (hF1 : ∀ x ∈ F, 0 ≤ x ∧ x ≤ 14) (hB1 : ∀ x ∈ B, 0 ≤ x ∧ x ≤ 14) :
    Calls Try.prog 76 #[.agg #[.slice FA fn fc, .slice BA bn bc, .int .i64 fs, .int .i64 bs, .int .i64 d0, .int .i64 d1]] w fun e w' => e = .returned (.map (some (w.heap.size + 1))) ∧ w'.ownsMap Try.prog 3 (plainElem Try.prog 3) (w.heap.size + 1) 8 (wmap F B) ∧ Below w.heap.size w w' := by
  have HF := Lib.hid hf
  have HB := Lib.hid hb
  clear hf hb
  have HF1 := Lib.hid hF1
  have HB1 := Lib.hid hB1
  clear hF1 hB1
  have hmm := @run_makeMap Try.prog
  go_enter Try.func76, Try.ntmps76
  go_wp2_with fail
  go_loopw [12] (fun i wr => ∃ k : Nat, k ≤ fn ∧ i = .int .i64 k ∧ Bx wr w.heap.size 50 #[.slice FA fn fc, .slice BA bn bc, .int .i64 fs, .int .i64 bs, .int .i64 d0, .int .i64 d1] ∧ wr.ownsMap Try.prog 3 (plainElem Try.prog 3) (w.heap.size + 1) k (putAll 1 (.map []) (F.take k)) ∧ Below w.heap.size w wr) (fun i _ => fn - (intOf i).toNat)
  case atStart =>
    refine ⟨0, by omega, rfl, (Bx.new w 50 _).alloc _, ?_, ((Below.refl _ _).alloc (Nat.le_refl _) _).alloc (by simp) _⟩
    have := World.ownsMap_made (H := Unit) (w.alloc (.cells #[.slice FA fn fc, .slice BA bn bc, .int .i64 fs, .int .i64 bs, .int .i64 d0, .int .i64 d1] 50)) Try.prog 3 (plainElem Try.prog 3)
    simpa [putAll] using this
  case round =>
    obtain ⟨k, hk, rfl, k1, hown, hBe⟩ := hrel
    by_cases hkn : k < fn
    · have hke : k < F.length := by rw [HF.out]; exact hkn
      obtain ⟨ad, rfl, hab, q0⟩ := ints_at (hF.below hBe) hke
      have hx := HF1.out _ (List.getElem_mem hke)
      have htk := Lib.hid (take_snoc' hke)
      generalize F[k] = x at *
      go_wp2_with (at_mapUpdate; refine wpList_mapUpdate_own _ rfl _ _ _ 113 rfl 3 3 keyed3 Try.underlying113 _ (w.heap.size + 1) k _ rfl hown (by unfold maxLen; omega) _ _ (.int .i64 x) rfl rfl (keyOf_int_mk Try.underlying3 (WalkArith.wf_i64 (by omega))) (.lit (.int .i64 1)) [] (plainElem_int Try.underlying3 (by decide)) ?_; intro w1 hown1 hgrow1)
      have k1' := k1.grown hgrow1 (by simp)
      go_roundw
      case rel => exact ⟨k + 1, by omega, by go_num, k1', by rw [htk.out, putAll_snoc]; exact hown1, hBe.grown hgrow1 hBe.size (fun j e => by cases e; omega)⟩
      case measure => simp [intOf]; omega
    · obtain rfl : k = fn := by omega
      rw [List.take_of_length_le (by rw [HF.out]; exact Nat.le_refl _)] at hown
      have c0 := k1.cell 1
      have c1 := k1.lt
      go_wp2_with fail
      go_loopw [22] (fun i wr => ∃ j : Nat, j ≤ bn ∧ i = .int .i64 j ∧ wr.ownsMap Try.prog 3 (plainElem Try.prog 3) (w.heap.size + 1) (4 + j) (putAll (-1) (putAll 1 (.map []) F) (B.take j)) ∧ Below w.heap.size w wr) (fun i _ => bn - (intOf i).toNat)
      case atStart => exact ⟨0, by omega, rfl, by simpa [putAll] using hown.mono (by omega), hBe⟩
      case round =>
        clear hown hBe k1 c0 c1
        obtain ⟨j, hj, rfl, hown, hBe⟩ := hrel
        by_cases hjn : j < bn
        · have hke : j < B.length := by rw [HB.out]; exact hjn
          obtain ⟨ad, rfl, hab, q0⟩ := ints_at (hB.below hBe) hke
          have hx := HB1.out _ (List.getElem_mem hke)
          have htk := Lib.hid (take_snoc' hke)
          generalize B[j] = x at *
          go_wp2_with (at_mapUpdate; refine wpList_mapUpdate_own _ rfl _ _ _ 113 rfl 3 3 keyed3 Try.underlying113 _ (w.heap.size + 1) (4 + j) _ rfl hown (by unfold maxLen; omega) _ _ (.int .i64 x) rfl rfl (keyOf_int_mk Try.underlying3 (WalkArith.wf_i64 (by omega))) (.lit (.int .i64 (-1))) [] (plainElem_int Try.underlying3 (by decide)) ?_; intro w1 hown1 hgrow1)
          go_roundw
          case rel => exact ⟨j + 1, by omega, by go_num, by rw [htk.out, putAll_snoc]; exact hown1, hBe.grown hgrow1 hBe.size (fun j e => by cases e; omega)⟩
          case measure => simp [intOf]; omega
        · obtain rfl : j = bn := by omega
          rw [List.take_of_length_le (by rw [HB.out]; exact Nat.le_refl _)] at hown
          go_wp2_with fail
          go_ret
          exact ⟨rfl, hown.mono (by omega), hBe⟩
end Go.Proofs.Ytgbogdckmfencaa
