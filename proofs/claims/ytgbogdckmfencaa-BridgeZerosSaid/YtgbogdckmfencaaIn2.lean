/- Numbers of a feed within a range. -/
import Derived.Test.YtgbogdckmfencaaFe2
import Derived.Test.YtgbogdckmfencaaR3
import Derived.Test.YtgbogdckmfencaaW1
set_option linter.unusedSimpArgs false
set_option linter.unusedVariables false
namespace Go.Proofs.Ytgbogdckmfencaa
open Go.RowKit
/-- Since a region began only the feed has turned, and it is a feed. -/
def FT (g : Nat) (V w' : World) : Prop := V.grownBy w' (some g) ∧ Fd g w'
/-- What one operation may turn. -/
def FK (g : Nat) (x y : World) : Prop := x.grownBy y (some g) ∧ (Fd g x → Fd g y)
theorem FT.step {g : Nat} {V x y : World} (h : FT g V x) (k : FK g x y) : FT g V y := ⟨grown_trans h.1 k.1, k.2 h.2⟩
theorem FT.bx {g b t : Nat} {cs : Array Value} {V w' : World} (h : FT g V w') (k : Bx V b t cs) (hne : b ≠ g) : Bx w' b t cs := k.grown h.1 (by simpa using hne)
theorem FK.bx {g b t : Nat} {cs : Array Value} {V w' : World} (h : FK g V w') (k : Bx V b t cs) (hne : b ≠ g) : Bx w' b t cs := k.grown h.1 (by simpa using hne)
theorem FK.alloc (g : Nat) (w : World) (o : Obj) : FK g w (w.alloc o) := ⟨grown_alloc (grown_refl _ _) _, fun h => h.alloc _⟩
theorem bx4 {x y z u : Int} (P : Int → Prop) (h1 : P x) (h2 : P y) (h3 : P z) (h4 : P u) : ∀ i, i < 4 → ∃ q, (#[Value.int .i64 x, .int .i64 y, .int .i64 z, .int .i64 u] : Array Value)[i]? = some (.int .i64 q) ∧ P q := by
  intro i hi
  match i, hi with
  | 0, _ => exact ⟨x, rfl, h1⟩
  | 1, _ => exact ⟨y, rfl, h2⟩
  | 2, _ => exact ⟨z, rfl, h3⟩
  | 3, _ => exact ⟨u, rfl, h4⟩
set_option maxRecDepth 100000 in
set_option maxHeartbeats 2000000 in
theorem in_any (g : Nat) (lo hi : Int) (w : World) (h : Fd g w) (h1 : -1000000 ≤ lo) (h2 : lo ≤ hi) (h3 : hi ≤ 1000000) : Calls Try.prog 42 #[.pointer (some ⟨g, 0, none⟩), .agg #[.int .i64 lo, .int .i64 hi]] w fun e w' => (∃ r : Int, e = .returned (.int .i64 r) ∧ lo ≤ r ∧ r ≤ hi) ∧ Fd g w' ∧ w.grownBy w' (some g) := by
  have hgl := h.lt
  have hfd := h.alloc (.cells #[.int .i64 lo, .int .i64 hi] 23)
  have k3 := Bx.new w 23 #[.int .i64 lo, .int .i64 hi]
  have gr0 := grown_alloc (grown_refl w (some g)) (.cells #[.int .i64 lo, .int .i64 hi] 23)
  have HF := Lib.hid hfd
  have HK := Lib.hid k3
  have HG := Lib.hid gr0
  clear hfd k3 gr0
  go_enter Try.func42, Try.ntmps42
  go_wp2_with fail
  have hfd := HF.out
  have k3 := HK.out
  have gr0 := HG.out
  clear HF HK HG
  have hne : w.heap.size ≠ g := by omega
  obtain ⟨b, hbe⟩ : ∃ b, w.heap.size = b := ⟨_, rfl⟩
  obtain ⟨V, hV⟩ : ∃ V, w.alloc (.cells #[.int .i64 lo, .int .i64 hi] 23) = V := ⟨_, rfl⟩
  rw [hV] at hfd k3 gr0 ⊢
  rw [hbe] at k3 hne ⊢
  clear hV hbe
  refine AnyG.start (FT g V) (fun i => i != 19) (by kernel_rfl) ?_
  have hS : FT g V (World.drew _) := ⟨grown_drew _ _, hfd.drew⟩
  refine AnyG.take (i := 0) (v := ?_) rfl (by kernel_rfl) (fun _ _ _ h => h) rfl ?_ hS ?_
  rotate_left
  · (intro w' _; go_simp; try with_reducible rfl)
  try simp only [Act.put, List.getElem_toArray, List.getElem_cons_succ, List.getElem_cons_zero, List.setIfInBounds_toArray, List.set_cons_zero, List.set_cons_succ]
  refine AnyG.take (i := 1) (v := ?_) rfl (by kernel_rfl) (fun _ _ _ h => h) rfl ?_ hS ?_
  rotate_left
  · (intro w' _; go_simp; try with_reducible rfl)
  try simp only [Act.put, List.getElem_toArray, List.getElem_cons_succ, List.getElem_cons_zero, List.setIfInBounds_toArray, List.set_cons_zero, List.set_cons_succ]
  refine AnyG.take (i := 2) (v := ?_) rfl (by kernel_rfl) (fun _ _ _ h => h) rfl ?_ hS ?_
  rotate_left
  · (intro w' hSw; (try dsimp only at hSw); obtain ⟨c0, c1, cf, cz⟩ := (hSw.bx k3 hne).two; go_simp; try with_reducible rfl)
  try simp only [Act.put, List.getElem_toArray, List.getElem_cons_succ, List.getElem_cons_zero, List.setIfInBounds_toArray, List.set_cons_zero, List.set_cons_succ]
  refine AnyG.take (i := 3) (v := ?_) rfl (by kernel_rfl) (fun _ _ _ h => h) rfl ?_ hS ?_
  rotate_left
  · (intro w' _; go_simp; try with_reducible rfl)
  try simp only [Act.put, List.getElem_toArray, List.getElem_cons_succ, List.getElem_cons_zero, List.setIfInBounds_toArray, List.set_cons_zero, List.set_cons_succ]
  refine AnyG.take (i := 4) (v := ?_) rfl (by kernel_rfl) (fun _ _ _ h => h) rfl ?_ hS ?_
  rotate_left
  · (intro w' hSw; (try dsimp only at hSw); obtain ⟨c0, c1, cf, cz⟩ := (hSw.bx k3 hne).two; go_simp; try with_reducible rfl)
  try simp only [Act.put, List.getElem_toArray, List.getElem_cons_succ, List.getElem_cons_zero, List.setIfInBounds_toArray, List.set_cons_zero, List.set_cons_succ]
  refine AnyG.take (i := 5) (v := ?_) rfl (by kernel_rfl) (fun _ _ _ h => h) rfl ?_ hS ?_
  rotate_left
  · (intro w' _; go_simp; try with_reducible rfl)
  try simp only [Act.put, List.getElem_toArray, List.getElem_cons_succ, List.getElem_cons_zero, List.setIfInBounds_toArray, List.set_cons_zero, List.set_cons_succ]
  refine AnyG.take (i := 6) (v := ?_) rfl (by kernel_rfl) (fun _ _ _ h => h) rfl ?_ hS ?_
  rotate_left
  · (intro w' _; go_simp; try with_reducible rfl)
  try simp only [Act.put, List.getElem_toArray, List.getElem_cons_succ, List.getElem_cons_zero, List.setIfInBounds_toArray, List.set_cons_zero, List.set_cons_succ]
  refine AnyG.take (i := 7) (v := ?_) rfl (by kernel_rfl) (fun _ _ _ h => h) rfl ?_ hS ?_
  rotate_left
  · (intro w' hSw; (try dsimp only at hSw); obtain ⟨c0, c1, cf, cz⟩ := (hSw.bx k3 hne).two; go_simp; try with_reducible rfl)
  try simp only [Act.put, List.getElem_toArray, List.getElem_cons_succ, List.getElem_cons_zero, List.setIfInBounds_toArray, List.set_cons_zero, List.set_cons_succ]
  refine AnyG.take (i := 8) (v := ?_) rfl (by kernel_rfl) (fun _ _ _ h => h) rfl ?_ hS ?_
  rotate_left
  · (intro w' _; go_simp; try with_reducible rfl)
  try simp only [Act.put, List.getElem_toArray, List.getElem_cons_succ, List.getElem_cons_zero, List.setIfInBounds_toArray, List.set_cons_zero, List.set_cons_succ]
  refine AnyG.take (i := 9) (v := ?_) rfl (by kernel_rfl) (fun _ _ _ h => h) rfl ?_ hS ?_
  rotate_left
  · (intro w' hSw; (try dsimp only at hSw); obtain ⟨c0, c1, cf, cz⟩ := (hSw.bx k3 hne).two; go_simp; try with_reducible rfl)
  try simp only [Act.put, List.getElem_toArray, List.getElem_cons_succ, List.getElem_cons_zero, List.setIfInBounds_toArray, List.set_cons_zero, List.set_cons_succ]
  refine AnyG.take (i := 11) (v := ?_) rfl (by kernel_rfl) (fun _ _ _ h => h) rfl ?_ hS ?_
  rotate_left
  · (intro w' _; go_simp; try with_reducible rfl)
  try simp only [Act.put, List.getElem_toArray, List.getElem_cons_succ, List.getElem_cons_zero, List.setIfInBounds_toArray, List.set_cons_zero, List.set_cons_succ]
  refine AnyG.take (i := 12) (v := ?_) rfl (by kernel_rfl) (fun _ _ _ h => h) rfl ?_ hS ?_
  rotate_left
  · (intro w' _; go_simp; try with_reducible rfl)
  try simp only [Act.put, List.getElem_toArray, List.getElem_cons_succ, List.getElem_cons_zero, List.setIfInBounds_toArray, List.set_cons_zero, List.set_cons_succ]
  refine AnyG.take (i := 13) (v := ?_) rfl (by kernel_rfl) (fun _ _ _ h => h) rfl ?_ hS ?_
  rotate_left
  · (intro w' hSw; (try dsimp only at hSw); obtain ⟨c0, c1, cf, cz⟩ := (hSw.bx k3 hne).two; go_simp; try with_reducible rfl)
  try simp only [Act.put, List.getElem_toArray, List.getElem_cons_succ, List.getElem_cons_zero, List.setIfInBounds_toArray, List.set_cons_zero, List.set_cons_succ]
  refine AnyG.take (i := 14) (v := ?_) rfl (by kernel_rfl) (fun _ _ _ h => h) rfl ?_ hS ?_
  rotate_left
  · (intro w' _; go_simp; try with_reducible rfl)
  try simp only [Act.put, List.getElem_toArray, List.getElem_cons_succ, List.getElem_cons_zero, List.setIfInBounds_toArray, List.set_cons_zero, List.set_cons_succ]
  refine AnyG.take (i := 15) (v := ?_) rfl (by kernel_rfl) (fun _ _ _ h => h) rfl ?_ hS ?_
  rotate_left
  · (intro w' hSw; (try dsimp only at hSw); obtain ⟨c0, c1, cf, cz⟩ := (hSw.bx k3 hne).two; go_simp; try with_reducible rfl)
  try simp only [Act.put, List.getElem_toArray, List.getElem_cons_succ, List.getElem_cons_zero, List.setIfInBounds_toArray, List.set_cons_zero, List.set_cons_succ]
  refine RegRel.AnyG.rel3 [0, 1, 2, 3, 4, 5, 6, 7, 8, 9, 11, 12, 13, 14, 15] [19] [[], [], [], [], [], [], [], [], [], [], [], [], [], [], [], [], [10], [10, 16], [10, 16, 17], [10, 16, 17, 18]] [(15, 10), (21, 16), (22, 17), (23, 18), (4, 19)] (FT g V) (fun _ => FK g) [(10, fun vs w1 => ∃ r : Int, vs 10 = .int .i64 r ∧ lo ≤ r ∧ r ≤ hi), (16, fun vs w1 => ∃ r : Int, vs 16 = .int .i64 r ∧ lo ≤ r ∧ r ≤ hi), (17, fun vs w1 => ∃ (q : Nat) (cs : Array Value), vs 17 = .slice (some ⟨q, 0, none⟩) 4 4 ∧ q ≠ g ∧ Bx w1 q 3 cs ∧ ∀ i, i < 4 → ∃ x, cs[i]? = some (.int .i64 x) ∧ (lo ≤ x ∧ x ≤ hi)), (18, fun vs w1 => ∃ r : Int, vs 18 = .int .i64 r ∧ lo ≤ r ∧ r ≤ hi)]
    (by kernel_rfl) (by kernel_rfl) (by kernel_rfl) (by decide) (by decide) hS (fun _ h => h) (fun _ _ _ h k => h.step k) ?hst ?hcg ?hstep ?hfin
  case hst => exact ⟨fun _ _ _ _ _ _ _ _ h _ hk => h, fun _ _ _ _ _ _ _ _ h _ hk => h, fun _ _ _ _ _ _ _ _ h _ hk => (by obtain ⟨q, cs, e1, e2, e3, e4⟩ := h; exact ⟨q, cs, e1, e2, hk.bx e3 e2, e4⟩), fun _ _ _ _ _ _ _ _ h _ hk => h, trivial⟩
  case hcg => exact ⟨fun _ _ _ he h => (by dsimp only at h ⊢; rw [he 10 (by simp)]; exact h), fun _ _ _ he h => (by dsimp only at h ⊢; rw [he 16 (by simp)]; exact h), fun _ _ _ he h => (by dsimp only at h ⊢; rw [he 17 (by simp)]; exact h), fun _ _ _ he h => (by dsimp only at h ⊢; rw [he 18 (by simp)]; exact h), trivial⟩
  case hstep =>
    refine ⟨?_, ?_, ?_, ?_, trivial⟩
    · rintro vs v1 - ⟨hgr, hfd⟩
      refine ⟨_, _, rfl, rfl, ?_⟩
      clear hS
      simp only [RegRel.fillT, List.foldl_cons, List.foldl_nil, List.setIfInBounds_toArray, List.set_cons_zero, List.set_cons_succ]
      go_simp
      refine (between_any g lo hi _ hfd (by omega) (by omega) (by omega) (by omega)).mono ?_
      rintro rr v2 ⟨⟨r, rfl, hr1, hr2⟩, hf2, hg2⟩
      first | exact ⟨⟨r, rfl, by omega, by omega⟩, ⟨hg2, fun _ => hf2⟩, rfl⟩ | exact ⟨⟨r, rfl, by omega, by omega⟩, ⟨hg2, fun _ => hf2⟩⟩ | trace_state
    · rintro vs v1 ⟨⟨r10, h10, ra10, rb10⟩, -⟩ ⟨hgr, hfd⟩
      refine ⟨_, _, rfl, rfl, ?_⟩
      clear hS
      try dsimp only at h10
      simp only [RegRel.fillT, List.foldl_cons, List.foldl_nil, List.setIfInBounds_toArray, List.set_cons_zero, List.set_cons_succ]
      try simp only [h10]
      clear h10
      go_simp
      refine (between_any g lo hi _ hfd (by omega) (by omega) (by omega) (by omega)).mono ?_
      rintro rr v2 ⟨⟨r, rfl, hr1, hr2⟩, hf2, hg2⟩
      first | exact ⟨⟨r, rfl, by omega, by omega⟩, ⟨hg2, fun _ => hf2⟩, rfl⟩ | exact ⟨⟨r, rfl, by omega, by omega⟩, ⟨hg2, fun _ => hf2⟩⟩ | trace_state
    · rintro vs v1 ⟨⟨r10, h10, ra10, rb10⟩, ⟨r16, h16, ra16, rb16⟩, -⟩ ⟨hgr, hfd⟩
      refine ⟨_, _, rfl, rfl, ?_⟩
      clear hS
      try dsimp only at h10 h16
      simp only [RegRel.fillT, List.foldl_cons, List.foldl_nil, List.setIfInBounds_toArray, List.set_cons_zero, List.set_cons_succ]
      try simp only [h10, h16]
      clear h10 h16
      go_simp
      have hlt := hfd.lt
      refine ⟨⟨_, rfl, by omega, _, Bx.new _ _ _, bx4 _ ⟨by omega, by omega⟩ ⟨by omega, by omega⟩ ⟨by omega, by omega⟩ ⟨by omega, by omega⟩⟩, FK.alloc _ _ _⟩
    · rintro vs v1 ⟨⟨r10, h10, ra10, rb10⟩, ⟨r16, h16, ra16, rb16⟩, ⟨q17, cs17, h17, hq17, hb17, hc17⟩, -⟩ ⟨hgr, hfd⟩
      refine ⟨_, _, rfl, rfl, ?_⟩
      clear hS
      try dsimp only at h10 h16 h17
      simp only [RegRel.fillT, List.foldl_cons, List.foldl_nil, List.setIfInBounds_toArray, List.set_cons_zero, List.set_cons_succ]
      try simp only [h10, h16, h17]
      clear h10 h16 h17
      go_simp
      refine (either_any g q17 4 cs17 (fun r => lo ≤ r ∧ r ≤ hi) _ hfd hb17 hq17 (by omega) (by omega) hc17).mono ?_
      rintro rr v2 ⟨⟨r, rfl, hr1, hr2⟩, hf2, hg2⟩
      first | exact ⟨⟨r, rfl, by omega, by omega⟩, ⟨hg2, fun _ => hf2⟩, rfl⟩ | exact ⟨⟨r, rfl, by omega, by omega⟩, ⟨hg2, fun _ => hf2⟩⟩ | trace_state
  case hfin =>
    rintro vs v1 ⟨⟨r10, h10, ra10, rb10⟩, ⟨r16, h16, ra16, rb16⟩, ⟨q17, cs17, h17, hq17, hb17, hc17⟩, ⟨r18, h18, ra18, rb18⟩, -⟩ ⟨hgr, hfd⟩
    clear hS
    try dsimp only at h10 h16 h17 h18
    simp only [List.filter_cons, List.contains_cons, List.contains_nil, Nat.reduceBEq, Bool.or_false, Bool.not_false, if_true, List.filter_nil]
    simp only [RegRel.fillT, List.foldl_cons, List.foldl_nil, List.setIfInBounds_toArray, List.set_cons_zero, List.set_cons_succ]
    simp only [h10, h16, h17, h18]
    clear h10 h16 h17 h18
    refine RegRel.wpOps_go rfl rfl ?_
    go_simp
    refine RegRel.wpOps_end ?_
    go_simp
    go_wp2_with fail
    go_ret
    exact ⟨⟨r18, rfl, ra18, rb18⟩, hfd, grown_trans gr0 hgr⟩
end Go.Proofs.Ytgbogdckmfencaa
