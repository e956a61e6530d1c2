/- The voyage of awake, and what is so of it. -/
import Derived.Test.YtdlohfglmagneaaDoorTe
import Derived.Test.YtdlohfglmagneaaDoorTaM
set_option linter.unusedSimpArgs false
set_option linter.unusedVariables false
namespace Go.Proofs.YtdlohfglmagneaaDoor
open Go Go.RowKit
/-- The minutes in which sills are passed, with moments only. -/
def salF (nd : Int) (g : Bool) : List Si → Int → List Int
  | [], _ => []
  | s :: r, a => match (mts (lvD s g) (a + way s g)).find? (fun m => decide (nd ≤ 1000 * dpt (lvD s g) m)) with
    | some m => m :: salF nd g r m
    | none => []
theorem sal_F {nd : Int} {g : Bool} : ∀ {ss : List Si} {a : Int}, (∀ s ∈ ss, s.Ok) → sal (slM nd ss g) a = salF nd g ss a
  | [], a, _ => rfl
  | s :: r, a, h => by
    have hs := h s (by simp)
    have hasc : Asc (lvD s g) := by
      unfold Asc lvD
      rw [List.pairwise_map]
      exact hs.asc
    have hc : ∀ x ∈ lvD s g, x.1 ≤ 2880 := fun x hx => by
      obtain ⟨l, hl, rfl⟩ := List.mem_map.1 hx
      exact (hs.lv l hl).fr.2
    have h1 := mts_ovr hasc hc (f := fun d => decide (nd ≤ 1000 * d)) (a + way s g)
    show sal ((way s g, fun m => decide (nd ≤ 1000 * dpt (lvD s g) m)) :: slM nd r g) a = _
    unfold sal salF
    rw [h1]
    cases ovr (fun m => decide (nd ≤ 1000 * dpt (lvD s g) m)) (a + way s g) with
    | none => rfl
    | some m => exact congrArg (m :: ·) (sal_F (fun s hs => h s (by simp [hs])))
def okF (v : Vg) (s : List Int) : Bool := roomOk v.hs (abd v.ls s) && lvlOk v (tiltP v.hs (abd v.ls s)) && decide ((salF (needsM v (abd v.ls s) false) false v.ss v.le).length = v.ss.length)
theorem okB_F {v : Vg} (ho : v.Ok) : okB v = okF v := funext fun s => by
  unfold okB okF passM salM
  rw [sal_F ho.ss]
def exV : Vg := ⟨800, 200, 300, 60, [⟨400, 2000, 500⟩, ⟨400, 500, 2000⟩], [⟨30, 40, [⟨0, 1600, 1650⟩]⟩, ⟨120, 150, [⟨0, 1300, 1350⟩, ⟨240, 1600, 1650⟩, ⟨480, 1200, 1250⟩]⟩], [⟨200, 220, 50⟩, ⟨180, 200, 40⟩, ⟨150, 150, 45⟩]⟩
theorem ex_ck : ckV exV = 0 := by kernel_rfl
theorem ex_st : ckSt exV [0, 1, -1] = 0 := by kernel_rfl
theorem ex_db : deepB exV (abd exV.ls [0, 1, -1]) true = 1290000 ∧ deepB exV (abd exV.ls [0, 1, -1]) false = 1340000 ∧ deepS exV (abd exV.ls [0, 1, -1]) true = 1260000 ∧ deepS exV (abd exV.ls [0, 1, -1]) false = 1310000 := ⟨by kernel_rfl, by kernel_rfl, by kernel_rfl, by kernel_rfl⟩
theorem ex_sal (g : Bool) : salM exV (abd exV.ls [0, 1, -1]) g = salF (needsM exV (abd exV.ls [0, 1, -1]) g) g exV.ss exV.le := sal_F (ckV_ok ex_ck).ss
theorem ex_verd : verdM exV.ss.length (salM exV (abd exV.ls [0, 1, -1]) true).length (salM exV (abd exV.ls [0, 1, -1]) false).length = 1 := by
  rw [ex_sal, ex_sal]
  kernel_rfl
theorem ex_over : overM exV (abd exV.ls [0, 1, -1]) = [(90, 100), (240, 250)] := by
  unfold overM
  rw [ex_sal, ex_sal]
  kernel_rfl
theorem ex_best : bestM exV = some [0, -1, 1] := by
  rw [bestM_eq, okB_F (ckV_ok ex_ck)]
  kernel_rfl
theorem ex_worth : woB exV [0, -1, 1] = 95 := by kernel_rfl
end Go.Proofs.YtdlohfglmagneaaDoor

/-! rng, voyage. -/
namespace Go.Proofs.YtdlohfglmagneaaDoor
open Go Go.RowKit
theorem of_rows {w : World} {g t s : Nat} {cs : Array Value} {xs : List (List Value)} (h : Bx w g t cs) (he : cs.toList = xs.flatten) (hs : ∀ r ∈ xs, r.length = s) : Sl w w.heap.size s (some ⟨g, 0, none⟩) xs :=
  Sl.of_bx h fun k r hr j u hu => by
    rw [← Array.getElem?_toList, he]
    exact flat_at xs hs k r hr j u hu
theorem rng_any (a b : Int) (w : World) : Calls Tryd.prog 5 #[.int .i64 a, .int .i64 b] w fun e w' => e = .returned (.agg #[.int .i64 a, .int .i64 b]) ∧ Below w.heap.size w w' := by
  have k1 := Bx.new w 29 #[.int .i64 0, .int .i64 0]
  have B0 := (Below.refl w.heap.size w).alloc (Nat.le_refl _) (.cells #[.int .i64 0, .int .i64 0] 29)
  obtain ⟨z0, z1, zf, zz⟩ := k1.two
  go_enter Tryd.func5, Tryd.ntmps5
  go_wp2_with fail
  have fA := Bx.new w 29 #[.int .i64 a, .int .i64 b]
  have fB := (Below.refl w.heap.size w).alloc (Nat.le_refl _) (.cells #[.int .i64 a, .int .i64 b] 29)
  obtain ⟨r0, r1, rf, rz⟩ := fA.two
  exact bodyPost_ret (v := .agg #[.int .i64 a, .int .i64 b]) (by simp [results, Tryd.results5, go_sem, r0, r1]) rfl ⟨rfl, fB⟩
set_option maxRecDepth 100000 in
set_option maxHeartbeats 4000000 in
theorem voyage_any (w : World) : Calls Tryd.prog 4 #[] w fun e w' => (∃ p : Vp, p.Fit ∧ p.ln = 3 ∧ e = .returned (.agg (vcs exV p)) ∧ VoyAt w' w'.heap.size exV p) ∧ Below w.heap.size w w' := by
  have k0 := Bx.new w 26 #[.int .i64 0, .int .i64 0, .int .i64 0, .slice none 0 0, .int .i64 0, .slice none 0 0, .slice none 0 0]
  have B0 := (Below.refl w.heap.size w).alloc (Nat.le_refl _) (.cells #[.int .i64 0, .int .i64 0, .int .i64 0, .slice none 0 0, .int .i64 0, .slice none 0 0, .slice none 0 0] 26)
  go_enter Tryd.func4, Tryd.ntmps4
  go_wp2_with (first
    | (go_at_call 5; have _t := hb8; clear _t; refine (rng_any _ _ _).mono ?_; rintro e9 w9 ⟨rfl, hb9⟩; have k9 := k8.call hb9; have B9 := B8.trans (hb9.mono B8.size); obtain ⟨c0, c1, c2, c3, c4, c5, c6, cf, cz⟩ := k9.seven)
    | (go_at_call 5; have _t := hb7; clear _t; refine (rng_any _ _ _).mono ?_; rintro e8 w8 ⟨rfl, hb8⟩; have k8 := k7.call hb8; have B8 := B7.trans (hb8.mono B7.size))
    | (go_at_call 5; have _t := hb6; clear _t; refine (rng_any _ _ _).mono ?_; rintro e7 w7 ⟨rfl, hb7⟩; have k7 := ((k6.alloc _).alloc _).call hb7; have B7 := ((B6.alloc B6.size _).alloc (B6.alloc B6.size _).size _).trans (hb7.mono ((B6.alloc B6.size _).alloc (B6.alloc B6.size _).size _).size))
    | (go_at_call 5; have _t := hb5; clear _t; refine (rng_any _ _ _).mono ?_; rintro e6 w6 ⟨rfl, hb6⟩; have k6 := k5.call hb6; have B6 := B5.trans (hb6.mono B5.size))
    | (go_at_call 5; have _t := hb4; clear _t; refine (rng_any _ _ _).mono ?_; rintro e5 w5 ⟨rfl, hb5⟩; have k5 := k4.call hb5; have B5 := B4.trans (hb5.mono B4.size))
    | (go_at_call 5; have _t := hb3; clear _t; refine (rng_any _ _ _).mono ?_; rintro e4 w4 ⟨rfl, hb4⟩; have k4 := k3.call hb4; have B4 := B3.trans (hb4.mono B3.size))
    | (go_at_call 5; have _t := hb2; clear _t; refine (rng_any _ _ _).mono ?_; rintro e3 w3 ⟨rfl, hb3⟩; have k3 := (k2.alloc _).call hb3; have B3 := (B2.alloc B2.size _).trans (hb3.mono (B2.alloc B2.size _).size))
    | (go_at_call 5; have _t := hb1; clear _t; refine (rng_any _ _ _).mono ?_; rintro e2 w2 ⟨rfl, hb2⟩; have k2 := k1.call hb2; have B2 := B1.trans (hb2.mono B1.size))
    | (go_at_call 5; refine (rng_any _ _ _).mono ?_; rintro e1 w1 ⟨rfl, hb1⟩; have k1 := (k0.alloc _).call hb1; have B1 := (B0.alloc B0.size _).trans (hb1.mono (B0.alloc B0.size _).size))
    | fail)
  have z1 := k0.lt
  have z2 := hb1.size
  have z3 := hb2.size
  have z4 := hb3.size
  have z5 := hb4.size
  have z6 := hb5.size
  have z7 := hb6.size
  have z8 := hb7.size
  have z9 := hb8.size
  have z10 := hb9.size
  simp only [World.size_alloc] at z1 z2 z3 z4 z5 z6 z7 z8 z9 z10
  have bH : Bx w9 (w.heap.size + 1) 51 #[.int .i64 400, .int .i64 2000, .int .i64 500, .int .i64 400, .int .i64 500, .int .i64 2000] := ((((((((((Bx.at _ _ _ (by simp)).call hb1).call hb2).alloc _).call hb3).call hb4).call hb5).call hb6).alloc _).alloc _ |>.call hb7 |>.call hb8 |>.call hb9)
  have bL1 : Bx w9 w2.heap.size 32 #[.int .i64 0, .int .i64 1600, .int .i64 1650] := ((((((((Bx.new w2 _ _).call hb3).call hb4).call hb5).call hb6).alloc _).alloc _).call hb7).call hb8 |>.call hb9
  have bL2 : Bx w9 w6.heap.size 32 #[.int .i64 0, .int .i64 1300, .int .i64 1350, .int .i64 240, .int .i64 1600, .int .i64 1650, .int .i64 480, .int .i64 1200, .int .i64 1250] := (((((Bx.new w6 _ _).alloc _).call hb7).call hb8).call hb9)
  have bS : Bx w9 (w6.heap.size + 1) 35 #[.int .i64 30, .int .i64 40, .slice (some ⟨w2.heap.size, 0, none⟩) 1 1, .int .i64 120, .int .i64 150, .slice (some ⟨w6.heap.size, 0, none⟩) 3 3] := ((((Bx.at _ _ _ (by simp)).call hb7).call hb8).call hb9)
  have fA := (((((((k9.set_ 0 (.int .i64 800)).set_ 1 (.int .i64 200)).set_ 2 (.int .i64 300)).set_ 3 (.slice (some ⟨w.heap.size + 1, 0, none⟩) 2 2)).set_ 4 (.int .i64 60)).set_ 5 (.slice (some ⟨w6.heap.size + 1, 0, none⟩) 2 2)).set_ 6 (.slice (some ⟨w9.heap.size, 0, none⟩) 3 3)).alloc (.cells #[.int .i64 200, .int .i64 220, .int .i64 50, .int .i64 180, .int .i64 200, .int .i64 40, .int .i64 150, .int .i64 150, .int .i64 45] 53)
  simp only [List.setIfInBounds_toArray, List.set_cons_zero, List.set_cons_succ] at fA
  have fB := (((((((B9.setCell (p := ⟨w.heap.size, 0, none⟩) (by simp) (.int .i64 800)).setCell (p := ⟨w.heap.size, 1, none⟩) (by simp) (.int .i64 200)).setCell (p := ⟨w.heap.size, 2, none⟩) (by simp) (.int .i64 300)).setCell (p := ⟨w.heap.size, 3, none⟩) (by simp) (.slice (some ⟨w.heap.size + 1, 0, none⟩) 2 2)).setCell (p := ⟨w.heap.size, 4, none⟩) (by simp) (.int .i64 60)).setCell (p := ⟨w.heap.size, 5, none⟩) (by simp) (.slice (some ⟨w6.heap.size + 1, 0, none⟩) 2 2)).setCell (p := ⟨w.heap.size, 6, none⟩) (by simp) (.slice (some ⟨w9.heap.size, 0, none⟩) 3 3)).alloc (by simp; have := B9.size; omega) (.cells #[.int .i64 200, .int .i64 220, .int .i64 50, .int .i64 180, .int .i64 200, .int .i64 40, .int .i64 150, .int .i64 150, .int .i64 45] 53)
  have fH := (((((((bH.far (p := ⟨w.heap.size, 0, none⟩) (by simp; try omega) (.int .i64 800)).far (p := ⟨w.heap.size, 1, none⟩) (by simp; try omega) (.int .i64 200)).far (p := ⟨w.heap.size, 2, none⟩) (by simp; try omega) (.int .i64 300)).far (p := ⟨w.heap.size, 3, none⟩) (by simp; try omega) (.slice (some ⟨w.heap.size + 1, 0, none⟩) 2 2)).far (p := ⟨w.heap.size, 4, none⟩) (by simp; try omega) (.int .i64 60)).far (p := ⟨w.heap.size, 5, none⟩) (by simp; try omega) (.slice (some ⟨w6.heap.size + 1, 0, none⟩) 2 2)).far (p := ⟨w.heap.size, 6, none⟩) (by simp; try omega) (.slice (some ⟨w9.heap.size, 0, none⟩) 3 3)).alloc (.cells #[.int .i64 200, .int .i64 220, .int .i64 50, .int .i64 180, .int .i64 200, .int .i64 40, .int .i64 150, .int .i64 150, .int .i64 45] 53)
  have fL1 := (((((((bL1.far (p := ⟨w.heap.size, 0, none⟩) (by simp; try omega) (.int .i64 800)).far (p := ⟨w.heap.size, 1, none⟩) (by simp; try omega) (.int .i64 200)).far (p := ⟨w.heap.size, 2, none⟩) (by simp; try omega) (.int .i64 300)).far (p := ⟨w.heap.size, 3, none⟩) (by simp; try omega) (.slice (some ⟨w.heap.size + 1, 0, none⟩) 2 2)).far (p := ⟨w.heap.size, 4, none⟩) (by simp; try omega) (.int .i64 60)).far (p := ⟨w.heap.size, 5, none⟩) (by simp; try omega) (.slice (some ⟨w6.heap.size + 1, 0, none⟩) 2 2)).far (p := ⟨w.heap.size, 6, none⟩) (by simp; try omega) (.slice (some ⟨w9.heap.size, 0, none⟩) 3 3)).alloc (.cells #[.int .i64 200, .int .i64 220, .int .i64 50, .int .i64 180, .int .i64 200, .int .i64 40, .int .i64 150, .int .i64 150, .int .i64 45] 53)
  have fL2 := (((((((bL2.far (p := ⟨w.heap.size, 0, none⟩) (by simp; try omega) (.int .i64 800)).far (p := ⟨w.heap.size, 1, none⟩) (by simp; try omega) (.int .i64 200)).far (p := ⟨w.heap.size, 2, none⟩) (by simp; try omega) (.int .i64 300)).far (p := ⟨w.heap.size, 3, none⟩) (by simp; try omega) (.slice (some ⟨w.heap.size + 1, 0, none⟩) 2 2)).far (p := ⟨w.heap.size, 4, none⟩) (by simp; try omega) (.int .i64 60)).far (p := ⟨w.heap.size, 5, none⟩) (by simp; try omega) (.slice (some ⟨w6.heap.size + 1, 0, none⟩) 2 2)).far (p := ⟨w.heap.size, 6, none⟩) (by simp; try omega) (.slice (some ⟨w9.heap.size, 0, none⟩) 3 3)).alloc (.cells #[.int .i64 200, .int .i64 220, .int .i64 50, .int .i64 180, .int .i64 200, .int .i64 40, .int .i64 150, .int .i64 150, .int .i64 45] 53)
  have fS := (((((((bS.far (p := ⟨w.heap.size, 0, none⟩) (by simp; try omega) (.int .i64 800)).far (p := ⟨w.heap.size, 1, none⟩) (by simp; try omega) (.int .i64 200)).far (p := ⟨w.heap.size, 2, none⟩) (by simp; try omega) (.int .i64 300)).far (p := ⟨w.heap.size, 3, none⟩) (by simp; try omega) (.slice (some ⟨w.heap.size + 1, 0, none⟩) 2 2)).far (p := ⟨w.heap.size, 4, none⟩) (by simp; try omega) (.int .i64 60)).far (p := ⟨w.heap.size, 5, none⟩) (by simp; try omega) (.slice (some ⟨w6.heap.size + 1, 0, none⟩) 2 2)).far (p := ⟨w.heap.size, 6, none⟩) (by simp; try omega) (.slice (some ⟨w9.heap.size, 0, none⟩) 3 3)).alloc (.cells #[.int .i64 200, .int .i64 220, .int .i64 50, .int .i64 180, .int .i64 200, .int .i64 40, .int .i64 150, .int .i64 150, .int .i64 45] 53)
  have fC := Bx.at (((((((w9.setCell ⟨w.heap.size, 0, none⟩ (.int .i64 800)).setCell ⟨w.heap.size, 1, none⟩ (.int .i64 200)).setCell ⟨w.heap.size, 2, none⟩ (.int .i64 300)).setCell ⟨w.heap.size, 3, none⟩ (.slice (some ⟨w.heap.size + 1, 0, none⟩) 2 2)).setCell ⟨w.heap.size, 4, none⟩ (.int .i64 60)).setCell ⟨w.heap.size, 5, none⟩ (.slice (some ⟨w6.heap.size + 1, 0, none⟩) 2 2)).setCell ⟨w.heap.size, 6, none⟩ (.slice (some ⟨w9.heap.size, 0, none⟩) 3 3)) 53 #[.int .i64 200, .int .i64 220, .int .i64 50, .int .i64 180, .int .i64 200, .int .i64 40, .int .i64 150, .int .i64 150, .int .i64 45] (n := w9.heap.size) (by simp)
  obtain ⟨Z, hZ⟩ : ∃ Z, (((((((w9.setCell ⟨w.heap.size, 0, none⟩ (.int .i64 800)).setCell ⟨w.heap.size, 1, none⟩ (.int .i64 200)).setCell ⟨w.heap.size, 2, none⟩ (.int .i64 300)).setCell ⟨w.heap.size, 3, none⟩ (.slice (some ⟨w.heap.size + 1, 0, none⟩) 2 2)).setCell ⟨w.heap.size, 4, none⟩ (.int .i64 60)).setCell ⟨w.heap.size, 5, none⟩ (.slice (some ⟨w6.heap.size + 1, 0, none⟩) 2 2)).setCell ⟨w.heap.size, 6, none⟩ (.slice (some ⟨w9.heap.size, 0, none⟩) 3 3)).alloc (.cells #[.int .i64 200, .int .i64 220, .int .i64 50, .int .i64 180, .int .i64 200, .int .i64 40, .int .i64 150, .int .i64 150, .int .i64 45] 53) = Z := ⟨_, rfl⟩
  rw [hZ] at fA fB fH fL1 fL2 fS fC ⊢
  clear hZ bH bL1 bL2 bS
  obtain ⟨r0, r1, r2, r3, r4, r5, r6, rf, rz⟩ := fA.seven
  have pL1 := of_rows fL1 (xs := [⟨0, 1600, 1650⟩].map lvr) (s := 3) rfl (by simp [lvr])
  have pL2 := of_rows fL2 (xs := [⟨0, 1300, 1350⟩, ⟨240, 1600, 1650⟩, ⟨480, 1200, 1250⟩].map lvr) (s := 3) rfl (by simp [lvr])
  have pS := of_rows fS (xs := [[.int .i64 30, .int .i64 40, .slice (some ⟨w2.heap.size, 0, none⟩) 1 1], [.int .i64 120, .int .i64 150, .slice (some ⟨w6.heap.size, 0, none⟩) 3 3]]) (s := 3) rfl (by simp)
  have hvoy : VoyAt Z Z.heap.size exV ⟨some ⟨w.heap.size + 1, 0, none⟩, 2, 2, some ⟨w6.heap.size + 1, 0, none⟩, 2, 2, some ⟨w9.heap.size, 0, none⟩, 3, 3⟩ := by
    refine ⟨rfl, rfl, rfl, of_rows fH rfl (by simp [exV, hdr]), ⟨_, pS, rfl, fun j r b hr hb => ?_⟩, of_rows fC rfl (by simp [exV, cgr])⟩
    match j with
    | 0 => cases hr; cases hb; exact ⟨_, _, rfl, Nat.le_refl _, pL1⟩
    | 1 => cases hr; cases hb; exact ⟨_, _, rfl, Nat.le_refl _, pL2⟩
    | j + 2 => simp at hr
  exact bodyPost_ret (v := .agg #[.int .i64 800, .int .i64 200, .int .i64 300, .slice (some ⟨w.heap.size + 1, 0, none⟩) 2 2, .int .i64 60, .slice (some ⟨w6.heap.size + 1, 0, none⟩) 2 2, .slice (some ⟨w9.heap.size, 0, none⟩) 3 3]) (by simp [results, Tryd.results4, go_sem, r0, r1, r2, r3, r4, r5, r6]) rfl ⟨⟨_, ⟨by dsimp only; omega, by dsimp only; omega, by dsimp only; omega⟩, rfl, rfl, hvoy⟩, fB⟩
end Go.Proofs.YtdlohfglmagneaaDoor
