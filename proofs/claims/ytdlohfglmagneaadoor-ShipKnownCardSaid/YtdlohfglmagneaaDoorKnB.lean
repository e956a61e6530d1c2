/- ShipKnown: the run, its loop. -/
import Derived.Test.YtdlohfglmagneaaDoorKnA
set_option linter.unusedSimpArgs false
set_option linter.unusedVariables false
namespace Go.Proofs.YtdlohfglmagneaaDoor
open Go Go.RowKit
set_option maxRecDepth 100000 in
set_option maxHeartbeats 16000000 in
def known_B (w : World) : (P : Prop) ×' (Later P → (known_A w).1) := by
  refine PSigma.mk ?P ?g
  case g =>
    intro hTail hT j0 y1 bh1 b11 b21 bs1 bl1 y2 bh2 b12 b22 bs2 bl2 y3 bh3 b13 b23 bs3 bl3 y4 bh4 b14 b24 bs4 bl4 y5 bh5 b15 b25 bs5 bl5 z1 z2 z3 z4 z5 V q1 hq1l y10 Z hb10 F1 hS F4 j1 BW3 J5 J4 J3 J2 J1 G5 G4 G3 G2 G1 u23 u24 u25 u26 u27 u28 u29 u30 u31 u32 u33 u34 u35 u36 u37 u38 u39 u40 u41 u42 u43 u44 u45 u46 u47 u48 u49 u50 u51 u52 u53 j2 u54 u55 u56 u57 u58 u59 u60 u61 u62 u63 u64 u65 u66 u67 u68 u69 U j3 j4 u71 u72 u73 u74 u75 u76 qs qa qe X HK HBW
    clear hT hS F1 F4 hb10 BW3 J5 J4 J3 J2 J1 G5 G4 G3 G2 G1 z1 z2 z3 z4 z5
    go_wp2_with fail
    go_loopw [8, 77, 78, 79, 80, 81, 82, 83, 84, 85, 86, 87, 88, 89, 90, 91, 92, 93] (fun i _ _ _ _ _ _ _ _ _ _ _ _ _ _ _ _ _ wr => ∃ k : Nat, i = .int .i64 k ∧ k ≤ 4 ∧ Below X.heap.size X wr) (fun i _ _ _ _ _ _ _ _ _ _ _ _ _ _ _ _ _ _ => 4 - (intOf i).toNat)
    case atStart => exact ⟨0, rfl, by omega, Below.refl _ _⟩
    case round =>
      obtain ⟨k, rfl, hk, hBX⟩ := hrel
      by_cases hk4 : k < 4
      · have HKr := Lib.hid (HK.out.call hBX)
        obtain ⟨s, A, n, c, e, hR⟩ := HKr.out.st k hk4
        have HR := Lib.hid hR
        clear hR
        have hk4i : (k : Int) < 4 := by omega
        have hkw : IntKind.i64.wrap ((k : Int) + 1) = (k : Int) + 1 := IntWalk.i64_in _ (by omega)
        obtain ⟨V, hV⟩ : ∃ W, W = wr := ⟨_, rfl⟩
        subst hV
        go_upto_region 10 with fail
        refine AnyG.startC (by kernel_rfl) ?_
        refine AnyG.takeP (i := 1) (v := ?_) rfl (by kernel_rfl) (fun _ _ _ h => h) rfl ?_ ?_
        rotate_left
        · (intro w'; go_simp; try with_reducible rfl)
        try simp only [Act.put, List.getElem_toArray, List.getElem_cons_succ, List.getElem_cons_zero, List.setIfInBounds_toArray, List.set_cons_zero, List.set_cons_succ]
        refine AnyG.takeP (i := 2) (v := ?_) rfl (by kernel_rfl) (fun _ _ _ h => h) rfl ?_ ?_
        rotate_left
        · (intro w'; go_simp; try with_reducible rfl)
        try simp only [Act.put, List.getElem_toArray, List.getElem_cons_succ, List.getElem_cons_zero, List.setIfInBounds_toArray, List.set_cons_zero, List.set_cons_succ]
        refine AnyG.takeP (i := 3) (v := ?_) rfl (by kernel_rfl) (fun _ _ _ h => h) rfl ?_ ?_
        rotate_left
        · (intro w'; go_simp; try with_reducible rfl)
        try simp only [Act.put, List.getElem_toArray, List.getElem_cons_succ, List.getElem_cons_zero, List.setIfInBounds_toArray, List.set_cons_zero, List.set_cons_succ]
        refine AnyG.takeP (i := 6) (v := ?_) rfl (by kernel_rfl) (fun _ _ _ h => h) rfl ?_ ?_
        rotate_left
        · (intro w'; go_simp; try with_reducible rfl)
        try simp only [Act.put, List.getElem_toArray, List.getElem_cons_succ, List.getElem_cons_zero, List.setIfInBounds_toArray, List.set_cons_zero, List.set_cons_succ]
        refine AnyG.takeP (i := 7) (v := ?_) rfl (by kernel_rfl) (fun _ _ _ h => h) rfl ?_ ?_
        rotate_left
        · (intro w'; go_simp; try with_reducible rfl)
        try simp only [Act.put, List.getElem_toArray, List.getElem_cons_succ, List.getElem_cons_zero, List.setIfInBounds_toArray, List.set_cons_zero, List.set_cons_succ]
        refine AnyG.takeP (i := 8) (v := ?_) rfl (by kernel_rfl) (fun _ _ _ h => h) rfl ?_ ?_
        rotate_left
        · (intro w'; go_simp; try with_reducible rfl)
        try simp only [Act.put, List.getElem_toArray, List.getElem_cons_succ, List.getElem_cons_zero, List.setIfInBounds_toArray, List.set_cons_zero, List.set_cons_succ]
        refine AnyG.enter (fun w' : World => Below V.heap.size V w') (fun i => true) ?_
        have hS : (fun w' : World => Below V.heap.size V w') (World.drew _) := (Below.refl _ _).drew
        refine AnyG.takeC (i := 4) (v := ?_) rfl (by kernel_rfl) (fun _ _ _ h => h) rfl ?_ hS ?_
        rotate_left
        · (intro w' hSw; (try dsimp only at hSw); have hr := HR.out.call hSw; have ca := hr.ca; go_simp; try with_reducible rfl)
        try simp only [Act.put, List.getElem_toArray, List.getElem_cons_succ, List.getElem_cons_zero, List.setIfInBounds_toArray, List.set_cons_zero, List.set_cons_succ]
        refine AnyG.takeC (i := 9) (v := ?_) rfl (by kernel_rfl) (fun _ _ _ h => h) rfl ?_ hS ?_
        rotate_left
        · (intro w' hSw; (try dsimp only at hSw); have hr := HR.out.call hSw; have ce := hr.ce; go_simp; try with_reducible rfl)
        try simp only [Act.put, List.getElem_toArray, List.getElem_cons_succ, List.getElem_cons_zero, List.setIfInBounds_toArray, List.set_cons_zero, List.set_cons_succ]
        refine AnyG.one (i := 0) (by kernel_rfl) rfl rfl ?_
        go_simp
        refine (voyage_any _).mono ?_
        rintro e0 y0 ⟨⟨p, hF, -, rfl, hV⟩, hb0⟩
        rw [vcs_def]
        refine Onward.on (hS.trans (hb0.mono hS.size)) (fun hS2 => ?_)
        clear hS
        have hS := hS2
        clear hS2
        try simp only [Act.put, List.getElem_toArray, List.getElem_cons_succ, List.getElem_cons_zero, List.setIfInBounds_toArray, List.set_cons_zero, List.set_cons_succ]
        refine AnyG.one (i := 5) (by kernel_rfl) rfl rfl ?_
        go_simp
        refine (checkStowage_any exV p A n c s _ hF ex_lf hV (HR.out.call hS).sl HR.out.ln (by have := HR.out.n20; omega)).mono ?_
        rintro e5 y5 ⟨rfl, hb5⟩
        rw [HR.out.ck]
        refine Onward.on (hS.trans (hb5.mono hS.size)) (fun hS2 => ?_)
        clear hS
        have hS := hS2
        clear hS2
        try simp only [Act.put, List.getElem_toArray, List.getElem_cons_succ, List.getElem_cons_zero, List.setIfInBounds_toArray, List.set_cons_zero, List.set_cons_succ]
        refine AnyG.takeC (i := 10) (v := ?_) rfl (by kernel_rfl) (fun _ _ _ h => h) rfl ?_ hS ?_
        rotate_left
        · (intro w' hSw; (try dsimp only at hSw); go_simp; try with_reducible rfl)
        try simp only [Act.put, List.getElem_toArray, List.getElem_cons_succ, List.getElem_cons_zero, List.setIfInBounds_toArray, List.set_cons_zero, List.set_cons_succ]
        refine AnyG.done (by kernel_rfl) ?_ _
        go_simp
        go_wp2_with fail
        exact ⟨⟨k + 1, by go_num, by omega, hBX.trans (hS.mono hBX.size)⟩, by simp [intOf]; omega⟩
      · obtain rfl : k = 4 := by omega
        replace HBW := Lib.hid (HBW.out.trans (hBX.mono HBW.out.size))
        replace HK := Lib.hid (HK.out.call hBX)
        clear hk hk4
        obtain ⟨V, hV⟩ : ∃ W, W = wr := ⟨_, rfl⟩
        subst hV
        clear hBX
        go_upto_region 12 with fail
        rename_i jj0 jj1 jj2 jj3 jj4 jj5 jj6
        revert j0 y1 bh1 b11 b21 bs1 bl1 y2 bh2 b12 b22 bs2 bl2 y3 bh3 b13 b23 bs3 bl3 y4 bh4 b14 b24 bs4 bl4 y5 bh5 b15 b25 bs5 bl5 jj0 q1 hq1l y10 Z j1 u23 u24 u25 u26 u27 u28 u29 u30 u31 u32 u33 u34 u35 u36 u37 u38 u39 u40 u41 u42 u43 u44 u45 u46 u47 u48 u49 u50 u51 u52 u53 j2 u54 u55 u56 u57 u58 u59 u60 u61 u62 u63 u64 u65 u66 u67 u68 u69 U u71 u72 u73 u74 u75 u76 qs qa qe X jj1 u0 u77 u78 u79 u80 u81 u82 u83 u84 u85 u86 u87 u88 u89 u90 u91 u92 u93 V HBW HK jj2 jj3 jj4 jj5 jj6
        exact hTail.out
end Go.Proofs.YtdlohfglmagneaaDoor
