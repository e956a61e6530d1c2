/- The reference: drafts 56. -/
import Derived.Test.YtfcpjkofbejleaaRcf
import Derived.Test.YtfcpjkofbejleaaAmaM
set_option linter.unusedSimpArgs false
set_option linter.unusedVariables false
namespace Go.Proofs.Ytfcpjkofbejleaa
open Go Go.RowKit
theorem ends_deep {v : Vg} {s : List Int} (h : StOk v s) (g : Bool) : 1000 * v.li + trS (fun n h => n * h.bw) v.hs ((v.ls.map (ton g)).zip s) = deepB v (abd v.ls s) g ∧ 1000 * v.li + trS (fun n h => n * h.st) v.hs ((v.ls.map (ton g)).zip s) = deepS v (abd v.ls s) g := by
  have hi : ∀ y ∈ s, -1 ≤ y := fun y hy => (h.inh y hy).1
  have e : v.ls.map (ton g) = (v.ls.zip s).map fun q => ton g q.1 := by
    have := List.map_fst_zip (l₁ := v.ls) (l₂ := s) (by rw [h.len]; exact Nat.le_refl _)
    rw [show (fun q : Cg × Int => ton g q.1) = ton g ∘ Prod.fst from rfl, ← List.map_map, this]
  rw [e, trS_zip hi, trS_zip hi]
  exact ⟨rfl, rfl⟩
theorem ton_in {v : Vg} (ho : v.Ok) (g : Bool) : ∀ n ∈ v.ls.map (ton g), 0 ≤ n ∧ n ≤ 5000 := fun n hn => by
  obtain ⟨c, hc, rfl⟩ := List.mem_map.1 hn
  exact ton_bd (ho.ls c hc) g
set_option maxRecDepth 100000 in
set_option maxHeartbeats 3200000 in
theorem refDrafts56_any (v : Vg) (p : Vp) (A : Option Addr) (sn sc : Nat) (s : List Int) (w : World) (hst : StOk v s) (hV : VoyAt w w.heap.size v p) (hS0 : Sl w w.heap.size 1 A (inr s)) (hl : s.length = sn) :
    Calls Try.prog 56 #[.agg (vcs v p), .slice A sn sc] w fun e w' => e = .returned (.tuple #[.agg #[.int .i64 (deepB v (abd v.ls s) true), .int .i64 (deepB v (abd v.ls s) false)], .agg #[.int .i64 (deepS v (abd v.ls s) true), .int .i64 (deepS v (abd v.ls s) false)]]) ∧ Below w.heap.size w w' := by
  have hne : sn = p.ln := by rw [← hl, hst.len, hV.ll]
  subst hne
  have HST := Lib.hid hst
  have HSL := Lib.hid hl
  have HLL := Lib.hid hV.ll
  have hl6 : p.ln ≤ 6 := by rw [← hV.ll]; exact hst.ok.l6
  obtain ⟨B0, hB0⟩ : ∃ y, deepB v (abd v.ls s) true = y := ⟨_, rfl⟩
  obtain ⟨B1, hB1⟩ : ∃ y, deepB v (abd v.ls s) false = y := ⟨_, rfl⟩
  obtain ⟨S0, hS0'⟩ : ∃ y, deepS v (abd v.ls s) true = y := ⟨_, rfl⟩
  obtain ⟨S1, hS1'⟩ : ∃ y, deepS v (abd v.ls s) false = y := ⟨_, rfl⟩
  have HB0 := Lib.hid hB0
  have HB1 := Lib.hid hB1
  have HS0 := Lib.hid hS0'
  have HS1 := Lib.hid hS1'
  rw [hB0, hB1, hS0', hS1', vcs_def]
  have Bw := (((Below.refl w.heap.size w).alloc (Nat.le_refl _) (.cells #[.int .i64 v.li, .int .i64 v.un, .int .i64 v.tr, .slice p.HA p.hn p.hc, .int .i64 v.le, .slice p.SA p.sn p.sc, .slice p.LA p.ln p.lc] 26)).alloc (by simp) (.cells #[.int .i64 0, .int .i64 0] 41)).alloc (by simp; omega) (.cells #[.int .i64 0, .int .i64 0] 41)
  have k1 := ((Bx.new w 26 #[.int .i64 v.li, .int .i64 v.un, .int .i64 v.tr, .slice p.HA p.hn p.hc, .int .i64 v.le, .slice p.SA p.sn p.sc, .slice p.LA p.ln p.lc]).alloc (.cells #[.int .i64 0, .int .i64 0] 41)).alloc (.cells #[.int .i64 0, .int .i64 0] 41)
  have c4 := (Bx.at (w.alloc (.cells #[.int .i64 v.li, .int .i64 v.un, .int .i64 v.tr, .slice p.HA p.hn p.hc, .int .i64 v.le, .slice p.SA p.sn p.sc, .slice p.LA p.ln p.lc] 26)) 41 #[.int .i64 0, .int .i64 0] (n := w.heap.size + 1) (by simp)).alloc (.cells #[.int .i64 0, .int .i64 0] 41)
  have c5 := Bx.at ((w.alloc (.cells #[.int .i64 v.li, .int .i64 v.un, .int .i64 v.tr, .slice p.HA p.hn p.hc, .int .i64 v.le, .slice p.SA p.sn p.sc, .slice p.LA p.ln p.lc] 26)).alloc (.cells #[.int .i64 0, .int .i64 0] 41)) 41 #[.int .i64 0, .int .i64 0] (n := w.heap.size + 1 + 1) (by simp)
  have hV1 := hV.call Bw
  have hS1 := hS0.call Bw
  clear hB0 hB1 hS0' hS1' hst hl hV hS0
  obtain ⟨W1, hW1⟩ : ∃ x, ((w.alloc (.cells #[.int .i64 v.li, .int .i64 v.un, .int .i64 v.tr, .slice p.HA p.hn p.hc, .int .i64 v.le, .slice p.SA p.sn p.sc, .slice p.LA p.ln p.lc] 26)).alloc (.cells #[.int .i64 0, .int .i64 0] 41)).alloc (.cells #[.int .i64 0, .int .i64 0] 41) = x := ⟨_, rfl⟩
  have HW := Lib.hid hW1
  rw [hW1] at k1 Bw hV1 hS1 c4 c5
  clear hW1
  go_enter Try.func56, Try.ntmps56
  go_upto_region 1 with fail
  rw [HW.out]
  refine AnyG.startC (by kernel_rfl) ?_
  refine AnyG.takeP (i := 1) (v := ?_) rfl (by kernel_rfl) (fun _ _ _ h => h) rfl ?_ ?_
  rotate_left
  · (intro w'; go_simp; try with_reducible rfl)
  try simp only [Act.put, List.getElem_toArray, List.getElem_cons_succ, List.getElem_cons_zero, List.setIfInBounds_toArray, List.set_cons_zero, List.set_cons_succ]
  refine AnyG.enter (fun w' : World => Below W1.heap.size W1 w') (fun i => i != 9) ?_
  have hS : (fun w' : World => Below W1.heap.size W1 w') (World.drew _) := (Below.refl _ _).drew
  refine AnyG.takeC (i := 0) (v := ?_) rfl (by kernel_rfl) (fun _ _ _ h => h) rfl ?_ hS ?_
  rotate_left
  · (intro w' hSw; (try dsimp only at hSw); obtain ⟨x0, x1, x2, x3, x4, x5, x6, xf, xz⟩ := (k1.call hSw).seven; go_simp; try with_reducible rfl)
  try simp only [Act.put, List.getElem_toArray, List.getElem_cons_succ, List.getElem_cons_zero, List.setIfInBounds_toArray, List.set_cons_zero, List.set_cons_succ]
  refine AnyG.takeC (i := 2) (v := ?_) rfl (by kernel_rfl) (fun _ _ _ h => h) rfl ?_ hS ?_
  rotate_left
  · (intro w' hSw; (try dsimp only at hSw); obtain ⟨x0, x1, x2, x3, x4, x5, x6, xf, xz⟩ := (k1.call hSw).seven; go_simp; try with_reducible rfl)
  try simp only [Act.put, List.getElem_toArray, List.getElem_cons_succ, List.getElem_cons_zero, List.setIfInBounds_toArray, List.set_cons_zero, List.set_cons_succ]
  refine AnyG.one (i := 3) (by kernel_rfl) rfl rfl ?_
  go_simp
  refine (refLightest_any v p _ hl6 (hV1.call hS)).mono ?_
  rintro er y3 ⟨⟨TA, tc, rfl, oT⟩, hb3⟩
  have hS3 := hS.trans (hb3.mono hS.size)
  refine Onward.on hS3 (fun hS2 => ?_)
  clear hS
  have hS := hS2
  clear hS2
  try simp only [Act.put, List.getElem_toArray, List.getElem_cons_succ, List.getElem_cons_zero, List.setIfInBounds_toArray, List.set_cons_zero, List.set_cons_succ]
  refine AnyG.one (i := 4) (by kernel_rfl) rfl rfl ?_
  go_simp
  refine (refEnds_any v p A p.ln sc s TA tc _ _ HST.out.ok (hV1.call hS) (hS1.call hS) (own_inr oT (by rw [List.length_map, HLL.out])) HSL.out (by rw [List.length_map, HLL.out]) hl6 HST.out.inh (ton_in HST.out.ok true)).mono ?_
  rintro er y4 ⟨rfl, hb4⟩
  have hS4 := hS.trans (hb4.mono hS.size)
  rw [(ends_deep HST.out true).1, (ends_deep HST.out true).2, HB0.out, HS0.out]
  refine Onward.on hS4 (fun hS2 => ?_)
  clear hS
  have hS := hS2
  clear hS2
  try simp only [Act.put, List.getElem_toArray, List.getElem_cons_succ, List.getElem_cons_zero, List.setIfInBounds_toArray, List.set_cons_zero, List.set_cons_succ]
  refine AnyG.takeC (i := 5) (v := ?_) rfl (by kernel_rfl) (fun _ _ _ h => h) rfl ?_ hS ?_
  rotate_left
  · (intro w' hSw; (try dsimp only at hSw); go_simp; try with_reducible rfl)
  try simp only [Act.put, List.getElem_toArray, List.getElem_cons_succ, List.getElem_cons_zero, List.setIfInBounds_toArray, List.set_cons_zero, List.set_cons_succ]
  refine AnyG.takeC (i := 6) (v := ?_) rfl (by kernel_rfl) (fun _ _ _ h => h) rfl ?_ hS ?_
  rotate_left
  · (intro w' hSw; (try dsimp only at hSw); go_simp; try with_reducible rfl)
  try simp only [Act.put, List.getElem_toArray, List.getElem_cons_succ, List.getElem_cons_zero, List.setIfInBounds_toArray, List.set_cons_zero, List.set_cons_succ]
  refine AnyG.takeC (i := 7) (v := ?_) rfl (by kernel_rfl) (fun _ _ _ h => h) rfl ?_ hS ?_
  rotate_left
  · (intro w' hSw; (try dsimp only at hSw); go_simp; try with_reducible rfl)
  try simp only [Act.put, List.getElem_toArray, List.getElem_cons_succ, List.getElem_cons_zero, List.setIfInBounds_toArray, List.set_cons_zero, List.set_cons_succ]
  refine AnyG.one (i := 8) (by kernel_rfl) rfl rfl ?_
  go_simp
  refine Onward.on hS (fun hS2 => ?_)
  clear hS
  have hS := hS2
  clear hS2
  try simp only [Act.put, List.getElem_toArray, List.getElem_cons_succ, List.getElem_cons_zero, List.setIfInBounds_toArray, List.set_cons_zero, List.set_cons_succ]
  refine AnyG.one (i := 9) (by kernel_rfl) rfl rfl ?_
  go_simp
  refine Onward.last rfl ?_
  try simp only [Act.put, List.getElem_toArray, List.getElem_cons_succ, List.getElem_cons_zero, List.setIfInBounds_toArray, List.set_cons_zero, List.set_cons_succ]
  refine AnyG.done (by kernel_rfl) ?_ _
  go_simp
  have hE1 : Below W1.heap.size W1 y4 := hS
  obtain ⟨W2, rfl⟩ : ∃ Z, Z = y4 := ⟨_, rfl⟩
  clear hS hS3 hS4 hb3 hb4 oT
  have k2 := k1.call hE1
  have hV2 := hV1.call hE1
  have hS2 := hS1.call hE1
  have d4 := c4.call hE1
  have d5 := c5.call hE1
  have Bw2 := Bw.trans (hE1.mono Bw.size)
  go_wp2_with fail
  refine AnyG.startC (by kernel_rfl) ?_
  refine AnyG.takeP (i := 1) (v := ?_) rfl (by kernel_rfl) (fun _ _ _ h => h) rfl ?_ ?_
  rotate_left
  · (intro w'; go_simp; try with_reducible rfl)
  try simp only [Act.put, List.getElem_toArray, List.getElem_cons_succ, List.getElem_cons_zero, List.setIfInBounds_toArray, List.set_cons_zero, List.set_cons_succ]
  refine AnyG.enter (fun w' : World => Below W2.heap.size W2 w') (fun i => i != 9) ?_
  have hS : (fun w' : World => Below W2.heap.size W2 w') (World.drew _) := (Below.refl _ _).drew
  refine AnyG.takeC (i := 0) (v := ?_) rfl (by kernel_rfl) (fun _ _ _ h => h) rfl ?_ hS ?_
  rotate_left
  · (intro w' hSw; (try dsimp only at hSw); obtain ⟨x0, x1, x2, x3, x4, x5, x6, xf, xz⟩ := (k2.call hSw).seven; go_simp; try with_reducible rfl)
  try simp only [Act.put, List.getElem_toArray, List.getElem_cons_succ, List.getElem_cons_zero, List.setIfInBounds_toArray, List.set_cons_zero, List.set_cons_succ]
  refine AnyG.takeC (i := 2) (v := ?_) rfl (by kernel_rfl) (fun _ _ _ h => h) rfl ?_ hS ?_
  rotate_left
  · (intro w' hSw; (try dsimp only at hSw); obtain ⟨x0, x1, x2, x3, x4, x5, x6, xf, xz⟩ := (k2.call hSw).seven; go_simp; try with_reducible rfl)
  try simp only [Act.put, List.getElem_toArray, List.getElem_cons_succ, List.getElem_cons_zero, List.setIfInBounds_toArray, List.set_cons_zero, List.set_cons_succ]
  refine AnyG.one (i := 3) (by kernel_rfl) rfl rfl ?_
  go_simp
  refine (refHeaviest_any v p _ hl6 (hV2.call hS)).mono ?_
  rintro er y3 ⟨⟨TA, tc, rfl, oT⟩, hb3⟩
  have hS3 := hS.trans (hb3.mono hS.size)
  refine Onward.on hS3 (fun hS2 => ?_)
  clear hS
  have hS := hS2
  clear hS2
  try simp only [Act.put, List.getElem_toArray, List.getElem_cons_succ, List.getElem_cons_zero, List.setIfInBounds_toArray, List.set_cons_zero, List.set_cons_succ]
  refine AnyG.one (i := 4) (by kernel_rfl) rfl rfl ?_
  go_simp
  refine (refEnds_any v p A p.ln sc s TA tc _ _ HST.out.ok (hV2.call hS) (hS2.call hS) (own_inr oT (by rw [List.length_map, HLL.out])) HSL.out (by rw [List.length_map, HLL.out]) hl6 HST.out.inh (ton_in HST.out.ok false)).mono ?_
  rintro er y4 ⟨rfl, hb4⟩
  have hS4 := hS.trans (hb4.mono hS.size)
  rw [(ends_deep HST.out false).1, (ends_deep HST.out false).2, HB1.out, HS1.out]
  refine Onward.on hS4 (fun hS2 => ?_)
  clear hS
  have hS := hS2
  clear hS2
  try simp only [Act.put, List.getElem_toArray, List.getElem_cons_succ, List.getElem_cons_zero, List.setIfInBounds_toArray, List.set_cons_zero, List.set_cons_succ]
  refine AnyG.takeC (i := 5) (v := ?_) rfl (by kernel_rfl) (fun _ _ _ h => h) rfl ?_ hS ?_
  rotate_left
  · (intro w' hSw; (try dsimp only at hSw); go_simp; try with_reducible rfl)
  try simp only [Act.put, List.getElem_toArray, List.getElem_cons_succ, List.getElem_cons_zero, List.setIfInBounds_toArray, List.set_cons_zero, List.set_cons_succ]
  refine AnyG.takeC (i := 6) (v := ?_) rfl (by kernel_rfl) (fun _ _ _ h => h) rfl ?_ hS ?_
  rotate_left
  · (intro w' hSw; (try dsimp only at hSw); go_simp; try with_reducible rfl)
  try simp only [Act.put, List.getElem_toArray, List.getElem_cons_succ, List.getElem_cons_zero, List.setIfInBounds_toArray, List.set_cons_zero, List.set_cons_succ]
  refine AnyG.takeC (i := 7) (v := ?_) rfl (by kernel_rfl) (fun _ _ _ h => h) rfl ?_ hS ?_
  rotate_left
  · (intro w' hSw; (try dsimp only at hSw); go_simp; try with_reducible rfl)
  try simp only [Act.put, List.getElem_toArray, List.getElem_cons_succ, List.getElem_cons_zero, List.setIfInBounds_toArray, List.set_cons_zero, List.set_cons_succ]
  refine AnyG.one (i := 8) (by kernel_rfl) rfl rfl ?_
  go_simp
  refine Onward.on hS (fun hS2 => ?_)
  clear hS
  have hS := hS2
  clear hS2
  try simp only [Act.put, List.getElem_toArray, List.getElem_cons_succ, List.getElem_cons_zero, List.setIfInBounds_toArray, List.set_cons_zero, List.set_cons_succ]
  refine AnyG.one (i := 9) (by kernel_rfl) rfl rfl ?_
  go_simp
  refine Onward.last rfl ?_
  try simp only [Act.put, List.getElem_toArray, List.getElem_cons_succ, List.getElem_cons_zero, List.setIfInBounds_toArray, List.set_cons_zero, List.set_cons_succ]
  refine AnyG.done (by kernel_rfl) ?_ _
  go_simp
  have hE2 : Below W2.heap.size W2 y4 := hS
  clear hS hS3 hS4 hb3 hb4 oT
  have f4 := d4.call hE2
  have f5 := d5.call hE2
  have Bw3 := Bw2.trans (hE2.mono Bw2.size)
  obtain ⟨a0, a1, af, az⟩ := f4.two'
  obtain ⟨b0, b1, bf, bz⟩ := f5.two'
  go_wp2_with fail
  have g4 := (((f4.set_ 0 (.int .i64 B0)).set_ 1 (.int .i64 B1)).far (p := ⟨w.heap.size + 1 + 1, 0, none⟩) (by simp) (.int .i64 S0)).far (p := ⟨w.heap.size + 1 + 1, 1, none⟩) (by simp) (.int .i64 S1)
  have g5 := (((f5.far (p := ⟨w.heap.size + 1, 0, none⟩) (by simp) (.int .i64 B0)).far (p := ⟨w.heap.size + 1, 1, none⟩) (by simp) (.int .i64 B1)).set_ 0 (.int .i64 S0)).set_ 1 (.int .i64 S1)
  simp only [List.setIfInBounds_toArray, List.set_cons_zero, List.set_cons_succ] at g4 g5
  have BZ := (((Bw3.setCell (p := ⟨w.heap.size + 1, 0, none⟩) (by dsimp only; omega) (.int .i64 B0)).setCell (p := ⟨w.heap.size + 1, 1, none⟩) (by dsimp only; omega) (.int .i64 B1)).setCell (p := ⟨w.heap.size + 1 + 1, 0, none⟩) (by dsimp only; omega) (.int .i64 S0)).setCell (p := ⟨w.heap.size + 1 + 1, 1, none⟩) (by dsimp only; omega) (.int .i64 S1)
  obtain ⟨Z, hZ⟩ : ∃ Z, (((y4.setCell ⟨w.heap.size + 1, 0, none⟩ (.int .i64 B0)).setCell ⟨w.heap.size + 1, 1, none⟩ (.int .i64 B1)).setCell ⟨w.heap.size + 1 + 1, 0, none⟩ (.int .i64 S0)).setCell ⟨w.heap.size + 1 + 1, 1, none⟩ (.int .i64 S1) = Z := ⟨_, rfl⟩
  rw [hZ] at g4 g5 BZ ⊢
  clear hZ
  obtain ⟨s0, s1, sf, sz⟩ := g4.two'
  obtain ⟨u0, u1, uf, uz⟩ := g5.two'
  exact bodyPost_ret (v := .tuple #[.agg #[.int .i64 B0, .int .i64 B1], .agg #[.int .i64 S0, .int .i64 S1]]) (by simp [results, Try.results56, go_sem, s0, s1, u0, u1]) rfl ⟨rfl, BZ⟩
end Go.Proofs.Ytfcpjkofbejleaa

/-! The reference: Drafts 24. -/
namespace Go.Proofs.Ytfcpjkofbejleaa
open Go Go.RowKit
set_option maxRecDepth 100000 in
set_option maxHeartbeats 3200000 in
theorem refDrafts_any (v : Vg) (p : Vp) (A : Option Addr) (sn sc : Nat) (s : List Int) (w : World) (hF : p.Fit) (hLF : LvFit v) (hV : VoyAt w w.heap.size v p) (hS0 : Sl w w.heap.size 1 A (inr s)) (hl : s.length = sn) (hsn : sn ≤ 1000000) :
    Calls Try.prog 24 #[.agg (vcs v p), .slice A sn sc] w fun e w' => e = .returned (if ckSt v s = 0 then .tuple #[.agg #[.int .i64 (deepB v (abd v.ls s) true), .int .i64 (deepB v (abd v.ls s) false)], .agg #[.int .i64 (deepS v (abd v.ls s) true), .int .i64 (deepS v (abd v.ls s) false)], .int .i64 0] else .tuple #[.agg #[.int .i64 0, .int .i64 0], .agg #[.int .i64 0, .int .i64 0], .int .i64 (ckSt v s)]) ∧ Below w.heap.size w w' := by
  have HSL := Lib.hid hl
  rw [vcs_def]
  have Bw := (((Below.refl w.heap.size w).alloc (Nat.le_refl _) (.cells #[.int .i64 v.li, .int .i64 v.un, .int .i64 v.tr, .slice p.HA p.hn p.hc, .int .i64 v.le, .slice p.SA p.sn p.sc, .slice p.LA p.ln p.lc] 26)).alloc (by simp) (.cells #[.int .i64 0, .int .i64 0] 41)).alloc (by simp; omega) (.cells #[.int .i64 0, .int .i64 0] 41)
  have k1 := ((Bx.new w 26 #[.int .i64 v.li, .int .i64 v.un, .int .i64 v.tr, .slice p.HA p.hn p.hc, .int .i64 v.le, .slice p.SA p.sn p.sc, .slice p.LA p.ln p.lc]).alloc (.cells #[.int .i64 0, .int .i64 0] 41)).alloc (.cells #[.int .i64 0, .int .i64 0] 41)
  have c4 := (Bx.at (w.alloc (.cells #[.int .i64 v.li, .int .i64 v.un, .int .i64 v.tr, .slice p.HA p.hn p.hc, .int .i64 v.le, .slice p.SA p.sn p.sc, .slice p.LA p.ln p.lc] 26)) 41 #[.int .i64 0, .int .i64 0] (n := w.heap.size + 1) (by simp)).alloc (.cells #[.int .i64 0, .int .i64 0] 41)
  have c5 := Bx.at ((w.alloc (.cells #[.int .i64 v.li, .int .i64 v.un, .int .i64 v.tr, .slice p.HA p.hn p.hc, .int .i64 v.le, .slice p.SA p.sn p.sc, .slice p.LA p.ln p.lc] 26)).alloc (.cells #[.int .i64 0, .int .i64 0] 41)) 41 #[.int .i64 0, .int .i64 0] (n := w.heap.size + 1 + 1) (by simp)
  have hV1 := hV.call Bw
  have hS1 := hS0.call Bw
  clear hl hV hS0
  obtain ⟨W1, hW1⟩ : ∃ x, ((w.alloc (.cells #[.int .i64 v.li, .int .i64 v.un, .int .i64 v.tr, .slice p.HA p.hn p.hc, .int .i64 v.le, .slice p.SA p.sn p.sc, .slice p.LA p.ln p.lc] 26)).alloc (.cells #[.int .i64 0, .int .i64 0] 41)).alloc (.cells #[.int .i64 0, .int .i64 0] 41) = x := ⟨_, rfl⟩
  have HW := Lib.hid hW1
  rw [hW1] at k1 Bw hV1 hS1 c4 c5
  clear hW1
  obtain ⟨R, hR⟩ : ∃ R, ckSt v s = R := ⟨_, rfl⟩
  have HRR := Lib.hid hR
  by_cases hz : R = 0
  case neg =>
    have hz1 : (R != 0) = true := by simpa using hz
    rw [hR, if_neg hz]
    clear hR
    go_enter Try.func24, Try.ntmps24
    go_upto_region 1 with fail
    rw [HW.out]
    obtain ⟨l0, l1, l2, l3, l4, l5, l6, lf', lz⟩ := k1.seven
    go_wp2_with (first
      | (go_at_call 30; refine (refCheckStowage_any v p A sn sc s _ hF hLF hV1 hS1 HSL.out hsn).mono ?_; rintro e_1 w_1 ⟨rfl, hb_1⟩; rw [HRR.out]; have B_1 := Bw.trans (hb_1.mono Bw.size); have d4 := c4.call hb_1; have d5 := c5.call hb_1; obtain ⟨a0, a1, af, az⟩ := d4.two'; obtain ⟨b0, b1, bf, bz⟩ := d5.two')
      | fail)
    have g4 := (((d4.set_ 0 (.int .i64 0)).set_ 1 (.int .i64 0)).far (p := ⟨w.heap.size + 1 + 1, 0, none⟩) (by simp) (.int .i64 0)).far (p := ⟨w.heap.size + 1 + 1, 1, none⟩) (by simp) (.int .i64 0)
    have g5 := (((d5.far (p := ⟨w.heap.size + 1, 0, none⟩) (by simp) (.int .i64 0)).far (p := ⟨w.heap.size + 1, 1, none⟩) (by simp) (.int .i64 0)).set_ 0 (.int .i64 0)).set_ 1 (.int .i64 0)
    simp only [List.setIfInBounds_toArray, List.set_cons_zero, List.set_cons_succ] at g4 g5
    have BZ := (((B_1.setCell (p := ⟨w.heap.size + 1, 0, none⟩) (by dsimp only; omega) (.int .i64 0)).setCell (p := ⟨w.heap.size + 1, 1, none⟩) (by dsimp only; omega) (.int .i64 0)).setCell (p := ⟨w.heap.size + 1 + 1, 0, none⟩) (by dsimp only; omega) (.int .i64 0)).setCell (p := ⟨w.heap.size + 1 + 1, 1, none⟩) (by dsimp only; omega) (.int .i64 0)
    obtain ⟨Z, hZ⟩ : ∃ Z, (((w_1.setCell ⟨w.heap.size + 1, 0, none⟩ (.int .i64 0)).setCell ⟨w.heap.size + 1, 1, none⟩ (.int .i64 0)).setCell ⟨w.heap.size + 1 + 1, 0, none⟩ (.int .i64 0)).setCell ⟨w.heap.size + 1 + 1, 1, none⟩ (.int .i64 0) = Z := ⟨_, rfl⟩
    rw [hZ] at g4 g5 BZ ⊢
    clear hZ
    obtain ⟨s0, s1, sf, sz⟩ := g4.two'
    obtain ⟨u0, u1, uf, uz⟩ := g5.two'
    exact bodyPost_ret (v := .tuple #[.agg #[.int .i64 0, .int .i64 0], .agg #[.int .i64 0, .int .i64 0], .int .i64 R]) (by simp [results, Try.results24, go_sem, s0, s1, u0, u1]) rfl ⟨rfl, BZ⟩
  subst hz
  have HST := Lib.hid (ckSt_ok hR)
  rw [hR, if_pos rfl]
  obtain ⟨B0, hB0⟩ : ∃ y, deepB v (abd v.ls s) true = y := ⟨_, rfl⟩
  obtain ⟨B1, hB1⟩ : ∃ y, deepB v (abd v.ls s) false = y := ⟨_, rfl⟩
  obtain ⟨S0, hS0'⟩ : ∃ y, deepS v (abd v.ls s) true = y := ⟨_, rfl⟩
  obtain ⟨S1, hS1'⟩ : ∃ y, deepS v (abd v.ls s) false = y := ⟨_, rfl⟩
  have HB0 := Lib.hid hB0
  have HB1 := Lib.hid hB1
  have HS0 := Lib.hid hS0'
  have HS1 := Lib.hid hS1'
  rw [hB0, hB1, hS0', hS1']
  clear hR hB0 hB1 hS0' hS1'
  go_enter Try.func24, Try.ntmps24
  go_upto_region 1 with fail
  rw [HW.out]
  obtain ⟨l0, l1, l2, l3, l4, l5, l6, lf', lz⟩ := k1.seven
  go_upto_region 5 with (first
    | (go_at_call 56; refine (refDrafts56_any v p A sn sc s _ HST.out hV2 hS2 HSL.out).mono ?_; rintro e_2 w_2 ⟨rfl, hb_2⟩; rw [HB0.out, HB1.out, HS0.out, HS1.out]; have B_2 := B_1.trans (hb_2.mono B_1.size); have e4 := d4.call hb_2; have e5 := d5.call hb_2)
    | (go_at_call 30; refine (refCheckStowage_any v p A sn sc s _ hF hLF hV1 hS1 HSL.out hsn).mono ?_; rintro e_1 w_1 ⟨rfl, hb_1⟩; rw [HRR.out]; have B_1 := Bw.trans (hb_1.mono Bw.size); have d4 := c4.call hb_1; have d5 := c5.call hb_1; have hV2 := hV1.call hb_1; have hS2 := hS1.call hb_1; have k2 := k1.call hb_1; clear l0 l1 l2 l3 l4 l5 l6 lf' lz; obtain ⟨l0, l1, l2, l3, l4, l5, l6, lf', lz⟩ := k2.seven)
    | fail)
  clear l0 l1 l2 l3 l4 l5 l6 lf' lz
  have hb3 := (Below.refl w_2.heap.size w_2).alloc (Nat.le_refl _) (.cells #[.int .i64 B0, .int .i64 B1] 41)
  have hb4 := hb3.alloc (by simp) (.cells #[.int .i64 S0, .int .i64 S1] 41)
  have k8 := (Bx.new w_2 41 #[.int .i64 B0, .int .i64 B1]).alloc (.cells #[.int .i64 S0, .int .i64 S1] 41)
  have k9 := Bx.at (w_2.alloc (.cells #[.int .i64 B0, .int .i64 B1] 41)) 41 #[.int .i64 S0, .int .i64 S1] (n := w_2.heap.size + 1) (by simp)
  have g4 := e4.call hb4
  have g5 := e5.call hb4
  have B_3 := B_2.trans (hb4.mono B_2.size)
  obtain ⟨w9, hw9⟩ : ∃ x, (w_2.alloc (.cells #[.int .i64 B0, .int .i64 B1] 41)).alloc (.cells #[.int .i64 S0, .int .i64 S1] 41) = x := ⟨_, rfl⟩
  rw [hw9] at k8 k9 g4 g5 B_3 ⊢
  obtain ⟨p8, hp8⟩ : ∃ x, w_2.heap.size = x := ⟨_, rfl⟩
  rw [hp8] at k8 k9 ⊢
  have h8 : w.heap.size + 1 + 1 < p8 := by have := e5.lt; omega
  clear hw9 hp8 hb3 hb4
  refine AnyG.startC (by kernel_rfl) ?_
  refine AnyG.enter (fun w' : World => Bx w' p8 41 #[.int .i64 B0, .int .i64 B1] ∧ Bx w' (p8 + 1) 41 #[.int .i64 S0, .int .i64 S1]) (fun i => i != 3 && i != 4) ?_
  have hS : (fun w' : World => Bx w' p8 41 #[.int .i64 B0, .int .i64 B1] ∧ Bx w' (p8 + 1) 41 #[.int .i64 S0, .int .i64 S1]) (World.drew _) := ⟨k8.drew, k9.drew⟩
  refine AnyG.takeC (i := 0) (v := ?_) rfl (by kernel_rfl) (fun _ _ _ h => h) rfl ?_ hS ?_
  rotate_left
  · (intro w' hSw; (try dsimp only at hSw); obtain ⟨a0, a1, af, az⟩ := hSw.1.two'; go_simp; try with_reducible rfl)
  try simp only [Act.put, List.getElem_toArray, List.getElem_cons_succ, List.getElem_cons_zero, List.setIfInBounds_toArray, List.set_cons_zero, List.set_cons_succ]
  refine AnyG.takeC (i := 1) (v := ?_) rfl (by kernel_rfl) (fun _ _ _ h => h) rfl ?_ hS ?_
  rotate_left
  · (intro w' hSw; (try dsimp only at hSw); obtain ⟨b0, b1, bf, bz⟩ := hSw.2.two'; go_simp; try with_reducible rfl)
  try simp only [Act.put, List.getElem_toArray, List.getElem_cons_succ, List.getElem_cons_zero, List.setIfInBounds_toArray, List.set_cons_zero, List.set_cons_succ]
  refine AnyG.one (i := 2) (by kernel_rfl) rfl rfl ?_
  obtain ⟨x0, x1, xf, xz⟩ := g4.two'
  go_simp
  clear x0 x1 xf xz
  refine Onward.on ⟨(hS.1.far (p := ⟨w.heap.size + 1, 0, none⟩) (by dsimp only; omega) (.int .i64 B0)).far (p := ⟨w.heap.size + 1, 1, none⟩) (by dsimp only; omega) (.int .i64 B1), (hS.2.far (p := ⟨w.heap.size + 1, 0, none⟩) (by dsimp only; omega) (.int .i64 B0)).far (p := ⟨w.heap.size + 1, 1, none⟩) (by dsimp only; omega) (.int .i64 B1)⟩ (fun hS2 => ?_)
  clear hS
  have hS := hS2
  clear hS2
  try simp only [Act.put, List.getElem_toArray, List.getElem_cons_succ, List.getElem_cons_zero, List.setIfInBounds_toArray, List.set_cons_zero, List.set_cons_succ]
  refine AnyG.one (i := 3) (by kernel_rfl) rfl rfl ?_
  obtain ⟨x0, x1, xf, xz⟩ := g5.two'
  go_simp
  clear x0 x1 xf xz
  refine Onward.last rfl ?_
  try simp only [Act.put, List.getElem_toArray, List.getElem_cons_succ, List.getElem_cons_zero, List.setIfInBounds_toArray, List.set_cons_zero, List.set_cons_succ]
  refine AnyG.one (i := 4) (by kernel_rfl) rfl rfl ?_
  go_simp
  refine Onward.last rfl ?_
  try simp only [Act.put, List.getElem_toArray, List.getElem_cons_succ, List.getElem_cons_zero, List.setIfInBounds_toArray, List.set_cons_zero, List.set_cons_succ]
  refine AnyG.done (by kernel_rfl) ?_ _
  go_simp
  go_wp2_with fail
  have q4 := (((g4.set_ 0 (.int .i64 B0)).set_ 1 (.int .i64 B1)).far (p := ⟨w.heap.size + 1 + 1, 0, none⟩) (by simp) (.int .i64 S0)).far (p := ⟨w.heap.size + 1 + 1, 1, none⟩) (by simp) (.int .i64 S1)
  have q5 := (((g5.far (p := ⟨w.heap.size + 1, 0, none⟩) (by simp) (.int .i64 B0)).far (p := ⟨w.heap.size + 1, 1, none⟩) (by simp) (.int .i64 B1)).set_ 0 (.int .i64 S0)).set_ 1 (.int .i64 S1)
  simp only [List.setIfInBounds_toArray, List.set_cons_zero, List.set_cons_succ] at q4 q5
  have BZ := (((B_3.setCell (p := ⟨w.heap.size + 1, 0, none⟩) (by dsimp only; omega) (.int .i64 B0)).setCell (p := ⟨w.heap.size + 1, 1, none⟩) (by dsimp only; omega) (.int .i64 B1)).setCell (p := ⟨w.heap.size + 1 + 1, 0, none⟩) (by dsimp only; omega) (.int .i64 S0)).setCell (p := ⟨w.heap.size + 1 + 1, 1, none⟩) (by dsimp only; omega) (.int .i64 S1)
  obtain ⟨Z, hZ⟩ : ∃ Z, ((((w9.setCell ⟨w.heap.size + 1, 0, none⟩ (.int .i64 B0)).setCell ⟨w.heap.size + 1, 1, none⟩ (.int .i64 B1)).setCell ⟨w.heap.size + 1 + 1, 0, none⟩ (.int .i64 S0)).setCell ⟨w.heap.size + 1 + 1, 1, none⟩ (.int .i64 S1)).drew = Z := ⟨_, rfl⟩
  have r4 : Bx Z (w.heap.size + 1) 41 #[.int .i64 B0, .int .i64 B1] := by rw [← hZ]; exact q4.drew
  have r5 : Bx Z (w.heap.size + 1 + 1) 41 #[.int .i64 S0, .int .i64 S1] := by rw [← hZ]; exact q5.drew
  have BY : Below w.heap.size w Z := by rw [← hZ]; exact BZ.drew
  rw [hZ]
  clear hZ
  obtain ⟨s0, s1, sf, sz⟩ := r4.two'
  obtain ⟨u0, u1, uf, uz⟩ := r5.two'
  exact bodyPost_ret (v := .tuple #[.agg #[.int .i64 B0, .int .i64 B1], .agg #[.int .i64 S0, .int .i64 S1], .int .i64 0]) (by simp [results, Try.results24, go_sem, s0, s1, u0, u1]) rfl ⟨rfl, BY⟩
end Go.Proofs.Ytfcpjkofbejleaa
