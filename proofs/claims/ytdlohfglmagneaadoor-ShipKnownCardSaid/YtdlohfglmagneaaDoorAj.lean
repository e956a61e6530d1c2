/- Drafts, Level. -/
import Derived.Test.YtdlohfglmagneaaDoorWrM
set_option linter.unusedSimpArgs false
set_option linter.unusedVariables false
namespace Go.Proofs.YtdlohfglmagneaaDoor
open Go Go.RowKit
theorem bx_same2 {w : World} {g t : Nat} {a b : Value} (h : Bx w g t #[a, b]) : Bx ((w.setCell ⟨g, 0, none⟩ a).setCell ⟨g, 1, none⟩ b) g t #[a, b] := by
  have := (h.set_ 0 a).set_ 1 b
  simpa using this
set_option maxRecDepth 100000 in
set_option maxHeartbeats 4000000 in
theorem drafts_any (v : Vg) (p : Vp) (A : Option Addr) (sn sc : Nat) (s : List Int) (w : World) (hF : p.Fit) (hLF : LvFit v) (hV : VoyAt w w.heap.size v p) (hS : Sl w w.heap.size 1 A (inr s)) (hl : s.length = sn) (hsn : sn ≤ 1000000) :
    Calls Tryd.prog 12 #[.agg (vcs v p), .slice A sn sc] w fun e w' => e = .returned (if ckSt v s = 0 then .tuple #[.agg #[.int .i64 (deepB v (abd v.ls s) true), .int .i64 (deepB v (abd v.ls s) false)], .agg #[.int .i64 (deepS v (abd v.ls s) true), .int .i64 (deepS v (abd v.ls s) false)], .int .i64 0] else .tuple #[.agg #[.int .i64 0, .int .i64 0], .agg #[.int .i64 0, .int .i64 0], .int .i64 (ckSt v s)]) ∧ Below w.heap.size w w' := by
  have k0 := ((Bx.new w 26 (vcs v p)).alloc (.cells #[.int .i64 0, .int .i64 0] 29)).alloc (.cells #[.int .i64 0, .int .i64 0] 29)
  have kA := (Bx.at (w.alloc (.cells (vcs v p) 26)) 29 #[.int .i64 0, .int .i64 0] (n := w.heap.size + 1) (by simp)).alloc (.cells #[.int .i64 0, .int .i64 0] 29)
  have kB := Bx.at ((w.alloc (.cells (vcs v p) 26)).alloc (.cells #[.int .i64 0, .int .i64 0] 29)) 29 #[.int .i64 0, .int .i64 0] (n := w.heap.size + 1 + 1) (by simp)
  have B0 := (((Below.refl w.heap.size w).alloc (Nat.le_refl _) (.cells (vcs v p) 26)).alloc (by simp) (.cells #[.int .i64 0, .int .i64 0] 29)).alloc (by simp; omega) (.cells #[.int .i64 0, .int .i64 0] 29)
  have HL := Lib.hid hl
  obtain ⟨E, hE⟩ : ∃ E, ckSt v s = E := ⟨_, rfl⟩
  have HE := Lib.hid hE
  rw [vcs_def] at k0 kA kB B0 ⊢
  obtain ⟨V, hVV⟩ : ∃ V, ((w.alloc (.cells #[.int .i64 v.li, .int .i64 v.un, .int .i64 v.tr, .slice p.HA p.hn p.hc, .int .i64 v.le, .slice p.SA p.sn p.sc, .slice p.LA p.ln p.lc] 26)).alloc (.cells #[.int .i64 0, .int .i64 0] 29)).alloc (.cells #[.int .i64 0, .int .i64 0] 29) = V := ⟨_, rfl⟩
  rw [hVV] at k0 kA kB B0
  have HVV := Lib.hid hVV
  clear hVV
  rw [hE]
  by_cases hz : E = 0
  case neg =>
    have hz1 : (E != 0) = true := by simpa using hz
    rw [if_neg hz]
    clear hE hl
    go_enter Tryd.func12, Tryd.ntmps12
    go_wp2_with (first
      | (go_at_call 8; rw [HVV.out]; refine (checkStowage_any v p A sn sc s V hF hLF (hV.call B0) (hS.call B0) HL.out hsn).mono ?_; rintro e w_1 ⟨rfl, hb_1⟩; rw [HE.out]; have k_1 := k0.call hb_1; have kA1 := kA.call hb_1; have kB1 := kB.call hb_1; have B_1 := B0.trans (hb_1.mono B0.size); obtain ⟨a0, a1, af, az⟩ := kA1.two; obtain ⟨b0, b1, bf, bz⟩ := kB1.two)
      | fail)
    have mA := (((kA1.set_ 0 (.int .i64 0)).set_ 1 (.int .i64 0)).far (p := ⟨w.heap.size + 1 + 1, 0, none⟩) (by simp) (.int .i64 0)).far (p := ⟨w.heap.size + 1 + 1, 1, none⟩) (by simp) (.int .i64 0)
    have mB := (((kB1.far (p := ⟨w.heap.size + 1, 0, none⟩) (by simp) (.int .i64 0)).far (p := ⟨w.heap.size + 1, 1, none⟩) (by simp) (.int .i64 0)).set_ 0 (.int .i64 0)).set_ 1 (.int .i64 0)
    have mW := (((B_1.setCell (p := ⟨w.heap.size + 1, 0, none⟩) (by simp) (.int .i64 0)).setCell (p := ⟨w.heap.size + 1, 1, none⟩) (by simp) (.int .i64 0)).setCell (p := ⟨w.heap.size + 1 + 1, 0, none⟩) (by simp; omega) (.int .i64 0)).setCell (p := ⟨w.heap.size + 1 + 1, 1, none⟩) (by simp; omega) (.int .i64 0)
    obtain ⟨U, hU⟩ : ∃ X, (((w_1.setCell ⟨w.heap.size + 1, 0, none⟩ (.int .i64 0)).setCell ⟨w.heap.size + 1, 1, none⟩ (.int .i64 0)).setCell ⟨w.heap.size + 1 + 1, 0, none⟩ (.int .i64 0)).setCell ⟨w.heap.size + 1 + 1, 1, none⟩ (.int .i64 0) = X := ⟨_, rfl⟩
    rw [hU] at mA mB mW
    have HU := Lib.hid hU
    clear hU
    simp only [List.setIfInBounds_toArray, List.set_cons_zero, List.set_cons_succ] at mA mB
    obtain ⟨p0, p1, pf, pz⟩ := mA.two
    obtain ⟨r0, r1, rf, rz⟩ := mB.two
    rw [HU.out]
    refine bodyPost_ret (v := .tuple #[.agg #[.int .i64 0, .int .i64 0], .agg #[.int .i64 0, .int .i64 0], .int .i64 E]) (by simp [results, Tryd.results12, go_sem, p0, p1, r0, r1]) rfl ⟨rfl, mW⟩
  subst hz
  have hok := ckSt_ok hE
  have ho := hok.ok
  have hh := inH_held hok.inh
  have hlp : sn ≤ p.ln := by rw [← hV.ll, ← hl, hok.len]; exact Nat.le_refl _
  rw [if_pos rfl]
  obtain ⟨g1, hg1⟩ : ∃ x, deepB v (abd v.ls s) true = x := ⟨_, rfl⟩
  obtain ⟨g2, hg2⟩ : ∃ x, deepS v (abd v.ls s) true = x := ⟨_, rfl⟩
  obtain ⟨q1, hq1⟩ : ∃ x, deepB v (abd v.ls s) false = x := ⟨_, rfl⟩
  obtain ⟨q2, hq2⟩ : ∃ x, deepS v (abd v.ls s) false = x := ⟨_, rfl⟩
  rw [hg1, hg2, hq1, hq2]
  have HG1 := Lib.hid hg1
  have HG2 := Lib.hid hg2
  have HQ1 := Lib.hid hq1
  have HQ2 := Lib.hid hq2
  clear hE hl hg1 hg2 hq1 hq2 hok
  go_enter Tryd.func12, Tryd.ntmps12
  go_wp2_with (first
    | (go_at_call 8; rw [HVV.out]; refine (checkStowage_any v p A sn sc s V hF hLF (hV.call B0) (hS.call B0) HL.out hsn).mono ?_; rintro e w_1 ⟨rfl, hb_1⟩; rw [HE.out]; have k_1 := k0.call hb_1; have kA1 := kA.call hb_1; have kB1 := kB.call hb_1; have B_1 := B0.trans (hb_1.mono B0.size))
    | fail)
  have hV1 := hV.call B_1
  have hS1 := hS.call B_1
  have hA1 := kA1.lt
  have hB1 := kB1.lt
  clear k0 kA kB B0 hV hS hb_1 HVV
  refine AnyG.start (fun w' : World => Below w_1.heap.size w_1 w') (fun i => i != 8 && i != 9) (by kernel_rfl) ?_
  have hS : (fun w' : World => Below w_1.heap.size w_1 w') (World.drew _) := (Below.refl _ _).drew
  refine AnyG.takeC (i := 0) (v := ?_) rfl (by kernel_rfl) (fun _ _ _ h => h) rfl ?_ hS ?_
  rotate_left
  · (intro w' hSw; (try dsimp only at hSw); obtain ⟨x0, x1, x2, x3, x4, x5, x6, xf, xz⟩ := (k_1.call hSw).seven; go_simp; try with_reducible rfl)
  try simp only [Act.put, List.setIfInBounds_toArray, List.set_cons_zero, List.set_cons_succ]
  refine AnyG.takeC (i := 1) (v := ?_) rfl (by kernel_rfl) (fun _ _ _ h => h) rfl ?_ hS ?_
  rotate_left
  · (intro w' _; go_simp; try with_reducible rfl)
  try simp only [Act.put, List.setIfInBounds_toArray, List.set_cons_zero, List.set_cons_succ]
  refine AnyG.takeC (i := 3) (v := ?_) rfl (by kernel_rfl) (fun _ _ _ h => h) rfl ?_ hS ?_
  rotate_left
  · (intro w' hSw; (try dsimp only at hSw); obtain ⟨x0, x1, x2, x3, x4, x5, x6, xf, xz⟩ := (k_1.call hSw).seven; go_simp; try with_reducible rfl)
  try simp only [Act.put, List.setIfInBounds_toArray, List.set_cons_zero, List.set_cons_succ]
  refine AnyG.takeC (i := 4) (v := ?_) rfl (by kernel_rfl) (fun _ _ _ h => h) rfl ?_ hS ?_
  rotate_left
  · (intro w' _; go_simp; try with_reducible rfl)
  try simp only [Act.put, List.setIfInBounds_toArray, List.set_cons_zero, List.set_cons_succ]
  refine RegRel.AnyG.rel2 [6, 7] [0, 1, 3, 4] [8, 9] [[], [], [], [], [], [2], [], [], [2, 5, 6, 7], [2, 5, 6, 7, 8]] [(20, 2), (23, 5), (8, 6), (9, 7)] [(2, fun vs _ => vs 2 = .agg #[.int .i64 g1, .int .i64 g2]), (5, fun vs _ => vs 5 = .agg #[.int .i64 q1, .int .i64 q2]), (6, fun vs w1 => ∃ g, vs 6 = .pointer (some ⟨g, 0, none⟩) ∧ w_1.heap.size ≤ g ∧ Bx w1 g 69 #[.int .i64 0, .int .i64 0]), (7, fun vs w1 => ∃ g, vs 7 = .pointer (some ⟨g, 0, none⟩) ∧ w_1.heap.size ≤ g ∧ Bx w1 g 69 #[.int .i64 0, .int .i64 0])]
    (by kernel_rfl) (by kernel_rfl) (by kernel_rfl) (by kernel_rfl) (by decide) (by decide) (fun _ h => Below.trans ((Below.refl w_1.heap.size w_1).drew) h) ?hst ?hcg ?hstep ?hfin
  case hst => exact ⟨fun _ _ _ h _ => h, fun _ _ _ h _ => h, fun _ _ _ ⟨g, h1, h2, h3⟩ hb => ⟨g, h1, h2, h3.call hb⟩, fun _ _ _ ⟨g, h1, h2, h3⟩ hb => ⟨g, h1, h2, h3.call hb⟩, trivial⟩
  case hcg => exact ⟨fun _ _ _ he h => (he 2 (by simp)).trans h, fun _ _ _ he h => (he 5 (by simp)).trans h, fun _ _ _ he ⟨g, h1, h2⟩ => ⟨g, (he 6 (by simp)).trans h1, h2⟩, fun _ _ _ he ⟨g, h1, h2⟩ => ⟨g, (he 7 (by simp)).trans h1, h2⟩, trivial⟩
  case hstep =>
    refine ⟨?_, ?_, ?_, ?_, trivial⟩
    · rintro vs v1 - hv
      refine ⟨_, _, rfl, rfl, ?_⟩
      clear hS
      simp only [RegRel.fillT, List.foldl_cons, List.foldl_nil, List.setIfInBounds_toArray, List.set_cons_zero, List.set_cons_succ]
      go_simp
      have hv2 : Below w_1.heap.size w_1 v1 := ((Below.refl w_1.heap.size w_1).drew).trans hv
      refine (depths_any v p A sn sc s true _ ho (hV1.call hv2) (hS1.call hv2) HL.out (by omega) hh).mono ?_
      rintro rr v2 ⟨rfl, hb2⟩
      rw [HG1.out, HG2.out]
      first | exact ⟨rfl, hb2, rfl, fun h => absurd h (by decide)⟩ | exact ⟨rfl, hb2, fun h => absurd h (by decide)⟩ | exact ⟨rfl, hb2, rfl⟩ | exact ⟨rfl, hb2⟩ | trace_state
    · rintro vs v1 ⟨h2, -⟩ hv
      refine ⟨_, _, rfl, rfl, ?_⟩
      clear hS
      try dsimp only at h2
      simp only [RegRel.fillT, List.foldl_cons, List.foldl_nil, List.setIfInBounds_toArray, List.set_cons_zero, List.set_cons_succ]
      clear h2
      go_simp
      have hv2 : Below w_1.heap.size w_1 v1 := ((Below.refl w_1.heap.size w_1).drew).trans hv
      refine (depths_any v p A sn sc s false _ ho (hV1.call hv2) (hS1.call hv2) HL.out (by omega) hh).mono ?_
      rintro rr v2 ⟨rfl, hb2⟩
      rw [HQ1.out, HQ2.out]
      first | exact ⟨rfl, hb2, rfl, fun h => absurd h (by decide)⟩ | exact ⟨rfl, hb2, fun h => absurd h (by decide)⟩ | exact ⟨rfl, hb2, rfl⟩ | exact ⟨rfl, hb2⟩ | trace_state
    · rintro vs v1 - hv
      refine ⟨_, _, rfl, rfl, ?_⟩
      clear hS
      simp only [RegRel.fillT, List.foldl_cons, List.foldl_nil, List.setIfInBounds_toArray, List.set_cons_zero, List.set_cons_succ]
      go_simp
      have hva : w_1.heap.size ≤ v1.heap.size := hv.size
      refine ⟨⟨_, rfl, ?_, Bx.new _ _ _⟩, (Below.refl _ _).alloc (Nat.le_refl _) _⟩
      omega
    · rintro vs v1 - hv
      refine ⟨_, _, rfl, rfl, ?_⟩
      clear hS
      simp only [RegRel.fillT, List.foldl_cons, List.foldl_nil, List.setIfInBounds_toArray, List.set_cons_zero, List.set_cons_succ]
      go_simp
      have hva : w_1.heap.size ≤ v1.heap.size := hv.size
      refine ⟨⟨_, rfl, ?_, Bx.new _ _ _⟩, (Below.refl _ _).alloc (Nat.le_refl _) _⟩
      omega
  case hfin =>
    rintro vs v1 ⟨h2, h5, ⟨g6, h6, hg6, hx6⟩, ⟨g7, h7, hg7, hx7⟩, -⟩ hv hdist
    clear hS
    try dsimp only at h2 h5 h6 h7
    have hne6_7 : g6 ≠ g7 := fun e => hdist 6 (by simp) 7 (by simp) (by decide) (by rw [h6, h7, e])
    clear hdist
    simp only [List.filter_cons, List.contains_cons, List.contains_nil, Nat.reduceBEq, Bool.or_false, Bool.not_false, if_true, List.filter_nil]
    simp only [RegRel.fillT, List.foldl_cons, List.foldl_nil, List.setIfInBounds_toArray, List.set_cons_zero, List.set_cons_succ]
    simp only [h2, h5, h6, h7]
    clear h2 h5 h6 h7
    have hvW : Below w_1.heap.size w_1 v1 := ((Below.refl w_1.heap.size w_1).drew).trans hv
    obtain ⟨r0, r1, rf, rz⟩ := hx6.two
    obtain ⟨y0, y1, yf, yz⟩ := hx7.two
    refine RegRel.wpOps_go rfl rfl ?_
    go_simp
    refine RegRel.wpOps_go rfl rfl ?_
    go_simp
    refine RegRel.wpOps_end ?_
    go_simp
    clear r0 r1 rf rz y0 y1 yf yz
    have M6 := ((((hx6.set_ 0 (.int .i64 g1)).set_ 1 (.int .i64 g2)).far (p := ⟨g7, 0, none⟩) hne6_7 (.int .i64 q1)).far (p := ⟨g7, 1, none⟩) hne6_7 (.int .i64 q2))
    have M7 := ((((hx7.far (p := ⟨g6, 0, none⟩) (Ne.symm hne6_7) (.int .i64 g1)).far (p := ⟨g6, 1, none⟩) (Ne.symm hne6_7) (.int .i64 g2)).set_ 0 (.int .i64 q1)).set_ 1 (.int .i64 q2))
    have MB := ((((hvW.setCell (p := ⟨g6, 0, none⟩) hg6 (.int .i64 g1)).setCell (p := ⟨g6, 1, none⟩) hg6 (.int .i64 g2)).setCell (p := ⟨g7, 0, none⟩) hg7 (.int .i64 q1)).setCell (p := ⟨g7, 1, none⟩) hg7 (.int .i64 q2))
    simp only [List.setIfInBounds_toArray, List.set_cons_zero, List.set_cons_succ] at M6 M7
    obtain ⟨U, hU⟩ : ∃ X, (((v1.setCell ⟨g6, 0, none⟩ (.int .i64 g1)).setCell ⟨g6, 1, none⟩ (.int .i64 g2)).setCell ⟨g7, 0, none⟩ (.int .i64 q1)).setCell ⟨g7, 1, none⟩ (.int .i64 q2) = X := ⟨_, rfl⟩
    rw [hU] at M6 M7 MB
    have HU := Lib.hid hU
    rw [HU.out]
    clear hU hx6 hx7 hv hvW
    have kA2 := kA1.grown (grown_below (row := none) MB) (by simp)
    have kB2 := kB1.grown (grown_below (row := none) MB) (by simp)
    have B2 := B_1.trans (MB.mono B_1.size)
    obtain ⟨r0, r1, rf, rz⟩ := M6.two
    obtain ⟨y0, y1, yf, yz⟩ := M7.two
    obtain ⟨a0, a1, af, az⟩ := kA2.two
    obtain ⟨b0, b1, bf, bz⟩ := kB2.two
    have hne6 : g6 ≠ w.heap.size + 1 := by omega
    have hne7 : g7 ≠ w.heap.size + 1 := by omega
    go_wp2_with fail
    have N4 := ((kA2.set_ 0 (.int .i64 g1)).set_ 1 (.int .i64 q1)).far (p := ⟨w.heap.size + 1 + 1, 0, none⟩) (by simp) (.int .i64 g2)
    have N4 := N4.far (p := ⟨w.heap.size + 1 + 1, 1, none⟩) (by simp) (.int .i64 q2)
    have N5 := (((kB2.far (p := ⟨w.heap.size + 1, 0, none⟩) (by simp) (.int .i64 g1)).far (p := ⟨w.heap.size + 1, 1, none⟩) (by simp) (.int .i64 q1)).set_ 0 (.int .i64 g2)).set_ 1 (.int .i64 q2)
    have NB := (((B2.setCell (p := ⟨w.heap.size + 1, 0, none⟩) (by simp) (.int .i64 g1)).setCell (p := ⟨w.heap.size + 1, 1, none⟩) (by simp) (.int .i64 q1)).setCell (p := ⟨w.heap.size + 1 + 1, 0, none⟩) (by simp; omega) (.int .i64 g2)).setCell (p := ⟨w.heap.size + 1 + 1, 1, none⟩) (by simp; omega) (.int .i64 q2)
    simp only [List.setIfInBounds_toArray, List.set_cons_zero, List.set_cons_succ] at N4 N5
    obtain ⟨X, hX⟩ : ∃ X, (((U.setCell ⟨w.heap.size + 1, 0, none⟩ (.int .i64 g1)).setCell ⟨w.heap.size + 1, 1, none⟩ (.int .i64 q1)).setCell ⟨w.heap.size + 1 + 1, 0, none⟩ (.int .i64 g2)).setCell ⟨w.heap.size + 1 + 1, 1, none⟩ (.int .i64 q2) = X := ⟨_, rfl⟩
    rw [hX] at N4 N5 NB
    rw [hX]
    clear hX r0 r1 rf rz y0 y1 yf yz a0 a1 af az b0 b1 bf bz kA2 kB2 B2 M6 M7 MB
    refine AnyG.startC (by kernel_rfl) ?_
    refine AnyG.enter (fun w' : World => Bx w' (w.heap.size + 1) 29 #[.int .i64 g1, .int .i64 q1] ∧ Bx w' (w.heap.size + 1 + 1) 29 #[.int .i64 g2, .int .i64 q2] ∧ Below w.heap.size w w') (fun i => i != 3 && i != 4) ?_
    have hS : (fun w' : World => Bx w' (w.heap.size + 1) 29 #[.int .i64 g1, .int .i64 q1] ∧ Bx w' (w.heap.size + 1 + 1) 29 #[.int .i64 g2, .int .i64 q2] ∧ Below w.heap.size w w') (World.drew _) := ⟨N4.drew, N5.drew, NB.drew⟩
    obtain ⟨y0, hy0⟩ : ∃ y, X.drew = y := ⟨_, rfl⟩
    rw [hy0] at hS ⊢
    clear hy0
    refine AnyG.takeC (i := 0) (v := ?_) rfl (by kernel_rfl) (fun _ _ _ h => h) rfl ?_ hS ?_
    rotate_left
    · (intro w' hSw; (try dsimp only at hSw); obtain ⟨x0, x1, xf, xz⟩ := hSw.1.two; go_simp; try with_reducible rfl)
    try simp only [Act.put, List.getElem_toArray, List.getElem_cons_succ, List.getElem_cons_zero, List.setIfInBounds_toArray, List.set_cons_zero, List.set_cons_succ]
    refine AnyG.takeC (i := 1) (v := ?_) rfl (by kernel_rfl) (fun _ _ _ h => h) rfl ?_ hS ?_
    rotate_left
    · (intro w' hSw; (try dsimp only at hSw); obtain ⟨x0, x1, xf, xz⟩ := hSw.2.1.two; go_simp; try with_reducible rfl)
    try simp only [Act.put, List.getElem_toArray, List.getElem_cons_succ, List.getElem_cons_zero, List.setIfInBounds_toArray, List.set_cons_zero, List.set_cons_succ]
    refine AnyG.one (i := 2) (by kernel_rfl) rfl rfl ?_
    obtain ⟨x0, x1, xf, xz⟩ := hS.1.two
    have hE0 := hS
    go_simp
    clear x0 x1 xf xz
    refine Onward.on (by exact And.intro (bx_same2 hE0.1) (And.intro ((hE0.2.1.far (p := ⟨w.heap.size + 1, 0, none⟩) (by simp) (.int .i64 g1)).far (p := ⟨w.heap.size + 1, 1, none⟩) (by simp) (.int .i64 q1)) ((hE0.2.2.setCell (p := ⟨w.heap.size + 1, 0, none⟩) (by simp) (.int .i64 g1)).setCell (p := ⟨w.heap.size + 1, 1, none⟩) (by simp) (.int .i64 q1)))) (fun hS2 => ?_)
    clear hS
    have hS := hS2
    clear hS2
    obtain ⟨y2, hy2⟩ : ∃ y, (y0.setCell ⟨w.heap.size + 1, 0, none⟩ (.int .i64 g1)).setCell ⟨w.heap.size + 1, 1, none⟩ (.int .i64 q1) = y := ⟨_, rfl⟩
    rw [hy2] at hS ⊢
    clear hy2 hE0
    try simp only [Act.put, List.getElem_toArray, List.getElem_cons_succ, List.getElem_cons_zero, List.setIfInBounds_toArray, List.set_cons_zero, List.set_cons_succ]
    refine AnyG.one (i := 3) (by kernel_rfl) rfl rfl ?_
    obtain ⟨x0, x1, xf, xz⟩ := hS.2.1.two
    have hE := hS
    go_simp
    clear x0 x1 xf xz
    refine Onward.last rfl ?_
    try simp only [Act.put, List.getElem_toArray, List.getElem_cons_succ, List.getElem_cons_zero, List.setIfInBounds_toArray, List.set_cons_zero, List.set_cons_succ]
    refine AnyG.one (i := 4) (by kernel_rfl) rfl rfl ?_
    go_simp
    refine Onward.last rfl ?_
    try simp only [Act.put, List.getElem_toArray, List.getElem_cons_succ, List.getElem_cons_zero, List.setIfInBounds_toArray, List.set_cons_zero, List.set_cons_succ]
    refine AnyG.done (by kernel_rfl) ?_ _
    go_wp2_with fail
    have f4 := hE.1
    have f5 := (hE.2.1.set_ 0 (.int .i64 g2)).set_ 1 (.int .i64 q2)
    have f4 := (f4.far (p := ⟨w.heap.size + 1 + 1, 0, none⟩) (by simp) (.int .i64 g2)).far (p := ⟨w.heap.size + 1 + 1, 1, none⟩) (by simp) (.int .i64 q2)
    have fB := (hE.2.2.setCell (p := ⟨w.heap.size + 1 + 1, 0, none⟩) (by simp; omega) (.int .i64 g2)).setCell (p := ⟨w.heap.size + 1 + 1, 1, none⟩) (by simp; omega) (.int .i64 q2)
    obtain ⟨Z, hZ⟩ : ∃ Z, (y2.setCell ⟨w.heap.size + 1 + 1, 0, none⟩ (.int .i64 g2)).setCell ⟨w.heap.size + 1 + 1, 1, none⟩ (.int .i64 q2) = Z := ⟨_, rfl⟩
    rw [hZ] at f4 f5 fB ⊢
    simp only [List.setIfInBounds_toArray, List.set_cons_zero, List.set_cons_succ] at f5
    obtain ⟨r0, r1, rf, rz⟩ := f4.two
    obtain ⟨y0, y1, yf, yz⟩ := f5.two
    exact bodyPost_ret (v := .tuple #[.agg #[.int .i64 g1, .int .i64 q1], .agg #[.int .i64 g2, .int .i64 q2], .int .i64 0]) (by simp [results, Tryd.results12, go_sem, r0, r1, y0, y1]) rfl ⟨rfl, fB⟩
set_option maxRecDepth 100000 in
set_option maxHeartbeats 4000000 in
theorem level_any (v : Vg) (p : Vp) (A : Option Addr) (sn sc : Nat) (s : List Int) (w : World) (hF : p.Fit) (hLF : LvFit v) (hV : VoyAt w w.heap.size v p) (hS : Sl w w.heap.size 1 A (inr s)) (hl : s.length = sn) (hsn : sn ≤ 1000000) :
    Calls Tryd.prog 9 #[.agg (vcs v p), .slice A sn sc] w fun e w' => e = .returned (if ckSt v s = 0 then .tuple #[.bool (lvlOk v (tiltP v.hs (abd v.ls s))), .agg #[.int .i64 (tiltP v.hs (abd v.ls s)).1, .int .i64 (tiltP v.hs (abd v.ls s)).2], .int .i64 0] else .tuple #[.bool false, .agg #[.int .i64 0, .int .i64 0], .int .i64 (ckSt v s)]) ∧ Below w.heap.size w w' := by
  have k0 := (Bx.new w 26 (vcs v p)).alloc (.cells #[.int .i64 0, .int .i64 0] 29)
  have kA := Bx.at (w.alloc (.cells (vcs v p) 26)) 29 #[.int .i64 0, .int .i64 0] (n := w.heap.size + 1) (by simp)
  have B0 := ((Below.refl w.heap.size w).alloc (Nat.le_refl _) (.cells (vcs v p) 26)).alloc (by simp) (.cells #[.int .i64 0, .int .i64 0] 29)
  have HL := Lib.hid hl
  obtain ⟨E, hE⟩ : ∃ E, ckSt v s = E := ⟨_, rfl⟩
  have HE := Lib.hid hE
  rw [vcs_def] at k0 kA B0 ⊢
  obtain ⟨V, hVV⟩ : ∃ V, (w.alloc (.cells #[.int .i64 v.li, .int .i64 v.un, .int .i64 v.tr, .slice p.HA p.hn p.hc, .int .i64 v.le, .slice p.SA p.sn p.sc, .slice p.LA p.ln p.lc] 26)).alloc (.cells #[.int .i64 0, .int .i64 0] 29) = V := ⟨_, rfl⟩
  rw [hVV] at k0 kA B0
  have HVV := Lib.hid hVV
  clear hVV
  rw [hE]
  by_cases hz : E = 0
  case neg =>
    have hz1 : (E != 0) = true := by simpa using hz
    rw [if_neg hz]
    clear hE hl
    go_enter Tryd.func9, Tryd.ntmps9
    go_wp2_with (first
      | (go_at_call 8; rw [HVV.out]; refine (checkStowage_any v p A sn sc s V hF hLF (hV.call B0) (hS.call B0) HL.out hsn).mono ?_; rintro e w_1 ⟨rfl, hb_1⟩; rw [HE.out]; have k_1 := k0.call hb_1; have kA1 := kA.call hb_1; have B_1 := B0.trans (hb_1.mono B0.size); obtain ⟨a0, a1, af, az⟩ := kA1.two)
      | fail)
    have mA := (kA1.set_ 0 (.int .i64 0)).set_ 1 (.int .i64 0)
    have mW := (B_1.setCell (p := ⟨w.heap.size + 1, 0, none⟩) (by simp) (.int .i64 0)).setCell (p := ⟨w.heap.size + 1, 1, none⟩) (by simp) (.int .i64 0)
    obtain ⟨U, hU⟩ : ∃ X, (w_1.setCell ⟨w.heap.size + 1, 0, none⟩ (.int .i64 0)).setCell ⟨w.heap.size + 1, 1, none⟩ (.int .i64 0) = X := ⟨_, rfl⟩
    rw [hU] at mA mW
    have HU := Lib.hid hU
    clear hU
    simp only [List.setIfInBounds_toArray, List.set_cons_zero, List.set_cons_succ] at mA
    obtain ⟨p0, p1, pf, pz⟩ := mA.two
    rw [HU.out]
    exact bodyPost_ret (v := .tuple #[.bool false, .agg #[.int .i64 0, .int .i64 0], .int .i64 E]) (by simp [results, Tryd.results9, go_sem, p0, p1]) rfl ⟨rfl, mW⟩
  subst hz
  have hok := ckSt_ok hE
  have ho := hok.ok
  have hh := inH_held hok.inh
  have hlp : sn ≤ p.ln := by rw [← hV.ll, ← hl, hok.len]; exact Nat.le_refl _
  have hbd := tilt_bd ho hh (fun x hx => hx) (abd_six ho s)
  rw [if_pos rfl]
  obtain ⟨g, hg⟩ : ∃ x, tiltP v.hs (abd v.ls s) = x := ⟨_, rfl⟩
  rw [hg] at hbd ⊢
  obtain ⟨g1, g2⟩ := g
  dsimp only at hbd ⊢
  have HG := Lib.hid hg
  obtain ⟨lo, hlo⟩ : ∃ x, lvlOk v (g1, g2) = x := ⟨_, rfl⟩
  rw [hlo]
  have HLO := Lib.hid hlo
  have htr := ho.tr
  clear hE hl hg hlo hok
  go_enter Tryd.func9, Tryd.ntmps9
  go_wp2_with (first
    | (go_at_call 8; rw [HVV.out]; refine (checkStowage_any v p A sn sc s V hF hLF (hV.call B0) (hS.call B0) HL.out hsn).mono ?_; rintro e w_1 ⟨rfl, hb_1⟩; rw [HE.out]; have k_1 := k0.call hb_1; have kA1 := kA.call hb_1; have B_1 := B0.trans (hb_1.mono B0.size); have hV1 := hV.call B_1; have hS1 := hS.call B_1; obtain ⟨c0, c1, c2, c3, c4, c5, c6, cf, cz⟩ := k_1.seven)
    | (go_at_call 22; refine (tilt_any v p A sn sc s w_1 ho hV1 hS1 HL.out hlp hh).mono ?_; rintro e w_2 ⟨rfl, hb_2⟩; rw [HG.out]; have k_2 := k_1.call hb_2; have kA2 := kA1.call hb_2; have B_2 := B_1.trans (hb_2.mono B_1.size); clear c0 c1 c2 c3 c4 c5 c6 cf cz; obtain ⟨a0, a1, af, az⟩ := kA2.two)
    | fail)
  have mA := (kA2.set_ 0 (.int .i64 g1)).set_ 1 (.int .i64 g2)
  have mk := (k_2.far (p := ⟨w.heap.size + 1, 0, none⟩) (by simp) (.int .i64 g1)).far (p := ⟨w.heap.size + 1, 1, none⟩) (by simp) (.int .i64 g2)
  have mW := (B_2.setCell (p := ⟨w.heap.size + 1, 0, none⟩) (by simp) (.int .i64 g1)).setCell (p := ⟨w.heap.size + 1, 1, none⟩) (by simp) (.int .i64 g2)
  obtain ⟨U, hU⟩ : ∃ X, (w_2.setCell ⟨w.heap.size + 1, 0, none⟩ (.int .i64 g1)).setCell ⟨w.heap.size + 1, 1, none⟩ (.int .i64 g2) = X := ⟨_, rfl⟩
  rw [hU] at mA mW mk
  have HU := Lib.hid hU
  clear hU a0 a1 af az kA2 k_2 B_2
  simp only [List.setIfInBounds_toArray, List.set_cons_zero, List.set_cons_succ] at mA
  rw [HU.out]
  refine AnyG.startC (by kernel_rfl) ?_
  refine AnyG.enter (fun w' : World => Bx w' (w.heap.size + 1) 29 #[.int .i64 g1, .int .i64 g2] ∧ Bx w' w.heap.size 26 #[.int .i64 v.li, .int .i64 v.un, .int .i64 v.tr, .slice p.HA p.hn p.hc, .int .i64 v.le, .slice p.SA p.sn p.sc, .slice p.LA p.ln p.lc] ∧ Below w.heap.size w w') (fun i => i != 5 && i != 6) ?_
  have hS : (fun w' : World => Bx w' (w.heap.size + 1) 29 #[.int .i64 g1, .int .i64 g2] ∧ Bx w' w.heap.size 26 #[.int .i64 v.li, .int .i64 v.un, .int .i64 v.tr, .slice p.HA p.hn p.hc, .int .i64 v.le, .slice p.SA p.sn p.sc, .slice p.LA p.ln p.lc] ∧ Below w.heap.size w w') (World.drew _) := ⟨mA.drew, mk.drew, mW.drew⟩
  refine AnyG.takeC (i := 0) (v := ?_) rfl (by kernel_rfl) (fun _ _ _ h => h) rfl ?_ hS ?_
  rotate_left
  · (intro w' hSw; (try dsimp only at hSw); obtain ⟨x0, x1, x2, x3, x4, x5, x6, xf, xz⟩ := hSw.2.1.seven; go_simp; try with_reducible rfl)
  try simp only [Act.put, List.getElem_toArray, List.getElem_cons_succ, List.getElem_cons_zero, List.setIfInBounds_toArray, List.set_cons_zero, List.set_cons_succ]
  refine AnyG.takeC (i := 1) (v := ?_) rfl (by kernel_rfl) (fun _ _ _ h => h) rfl ?_ hS ?_
  rotate_left
  · (intro w' hSw; (try dsimp only at hSw); obtain ⟨x0, x1, xf, xz⟩ := hSw.1.two; go_simp; try with_reducible rfl)
  try simp only [Act.put, List.getElem_toArray, List.getElem_cons_succ, List.getElem_cons_zero, List.setIfInBounds_toArray, List.set_cons_zero, List.set_cons_succ]
  refine AnyG.takeC (i := 3) (v := ?_) rfl (by kernel_rfl) (fun _ _ _ h => h) rfl ?_ hS ?_
  rotate_left
  · (intro w' hSw; (try dsimp only at hSw); obtain ⟨x0, x1, xf, xz⟩ := hSw.1.two; go_simp; try with_reducible rfl)
  try simp only [Act.put, List.getElem_toArray, List.getElem_cons_succ, List.getElem_cons_zero, List.setIfInBounds_toArray, List.set_cons_zero, List.set_cons_succ]
  refine AnyG.one (i := 2) (by kernel_rfl) rfl rfl ?_
  go_simp
  refine (isLevel_any v p (g1, g2) _ (by dsimp only; omega) (by dsimp only; omega) htr).mono ?_
  rintro e5 y5 ⟨rfl, hb5⟩
  rw [HLO.out]
  refine Onward.on ⟨hS.1.call hb5, hS.2.1.call hb5, hS.2.2.trans (hb5.mono hS.2.2.size)⟩ (fun hS2 => ?_)
  clear hS
  have hS := hS2
  clear hS2
  try simp only [Act.put, List.getElem_toArray, List.getElem_cons_succ, List.getElem_cons_zero, List.setIfInBounds_toArray, List.set_cons_zero, List.set_cons_succ]
  refine AnyG.takeC (i := 4) (v := ?_) rfl (by kernel_rfl) (fun _ _ _ h => h) rfl ?_ hS ?_
  rotate_left
  · (intro w' hSw; (try dsimp only at hSw); go_simp; try with_reducible rfl)
  try simp only [Act.put, List.getElem_toArray, List.getElem_cons_succ, List.getElem_cons_zero, List.setIfInBounds_toArray, List.set_cons_zero, List.set_cons_succ]
  refine AnyG.one (i := 5) (by kernel_rfl) rfl rfl ?_
  obtain ⟨x0, x1, xf, xz⟩ := hS.1.two
  have hE := hS
  go_simp
  clear x0 x1 xf xz
  refine Onward.last rfl ?_
  try simp only [Act.put, List.getElem_toArray, List.getElem_cons_succ, List.getElem_cons_zero, List.setIfInBounds_toArray, List.set_cons_zero, List.set_cons_succ]
  refine AnyG.one (i := 6) (by kernel_rfl) rfl rfl ?_
  go_simp
  refine Onward.last rfl ?_
  try simp only [Act.put, List.getElem_toArray, List.getElem_cons_succ, List.getElem_cons_zero, List.setIfInBounds_toArray, List.set_cons_zero, List.set_cons_succ]
  refine AnyG.done (by kernel_rfl) ?_ _
  go_wp2_with fail
  have fA := (hE.1.set_ 0 (.int .i64 g1)).set_ 1 (.int .i64 g2)
  have fB := (hE.2.2.setCell (p := ⟨w.heap.size + 1, 0, none⟩) (by simp) (.int .i64 g1)).setCell (p := ⟨w.heap.size + 1, 1, none⟩) (by simp) (.int .i64 g2)
  obtain ⟨Z, hZ⟩ : ∃ Z, (y5.setCell ⟨w.heap.size + 1, 0, none⟩ (.int .i64 g1)).setCell ⟨w.heap.size + 1, 1, none⟩ (.int .i64 g2) = Z := ⟨_, rfl⟩
  rw [hZ] at fA fB ⊢
  simp only [List.setIfInBounds_toArray, List.set_cons_zero, List.set_cons_succ] at fA
  obtain ⟨r0, r1, rf, rz⟩ := fA.two
  exact bodyPost_ret (v := .tuple #[.bool lo, .agg #[.int .i64 g1, .int .i64 g2], .int .i64 0]) (by simp [results, Tryd.results9, go_sem, r0, r1]) rfl ⟨rfl, fB⟩

end Go.Proofs.YtdlohfglmagneaaDoor
