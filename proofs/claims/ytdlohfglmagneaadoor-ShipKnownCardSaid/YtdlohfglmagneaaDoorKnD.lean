/- ShipKnown: the run, its end. -/
import Derived.Test.YtdlohfglmagneaaDoorKnC
set_option linter.unusedSimpArgs false
set_option linter.unusedVariables false
namespace Go.Proofs.YtdlohfglmagneaaDoor
open Go Go.RowKit
attribute [local go_sem] eq41
theorem one_lit : billT oneV = (⟨#[98, 97, 114, 103, 101, 32, 56, 48, 48, 32, 50, 48, 48, 32, 51, 48, 48, 32, 54, 48, 10, 104, 111, 108, 100, 32, 52, 48, 48, 32, 50, 48, 48, 48, 32, 53, 48, 48, 10, 115, 105, 108, 108, 32, 51, 48, 32, 52, 48, 10, 108, 101, 118, 101, 108, 32, 48, 32, 49, 54, 48, 48, 32, 49, 54, 53, 48, 10, 101, 110, 100, 32, 48, 10]⟩ : ByteArray) := by decide +kernel
set_option maxRecDepth 100000 in
set_option maxHeartbeats 16000000 in
theorem known_D (w : World) : (known_C w).1 := by
  intro y1 bh1 b11 b21 bs1 bl1 y2 bh2 b12 b22 bs2 bl2 y3 bh3 b13 b23 bs3 bl3 y4 bh4 b14 b24 bs4 bl4 y5 bh5 b15 b25 bs5 bl5 jj0 q1 hq1l y10 Z j1 u23 u24 u25 u26 u27 u28 u29 u30 u31 u32 u33 u34 u35 u36 u37 u38 u39 u40 u41 u42 u43 u44 u45 u46 u47 u48 u49 u50 u51 u52 u53 j2 u54 u55 u56 u57 u58 u59 u60 u61 u62 u63 u64 u65 u66 u67 u68 u69 U u71 u72 u73 u74 u75 u76 qs qa qe X jj1 u0 u77 u78 u79 u80 u81 u82 u83 u84 u85 u86 u87 u88 u89 u90 u91 u92 u93 jk0 jj2 jj3 jj4 u94 u95 u96 u97 u98 u99 u100 u101 u102 qx jk1 jk2 u103 u104 u105 u106 u107 u108 u109 u110 u111 qy jk3 u112 u113 u114 u115 u116 u117 u118 qz V kz kx ky HBW HK jk4 jk5 jk6 jk7
  have HF4 : Hid (Vp.Fit ⟨some ⟨bh4, 0, none⟩, 2, 2, some ⟨bs4, 0, none⟩, 2, 2, some ⟨bl4, 0, none⟩, 3, 3⟩) := Lib.hid ⟨by simp, by simp, by simp⟩
  have HL4 : Hid (LvFit lowV) := Lib.hid (fun s hs => by have : s.lv.length ≤ 6 := (show ∀ s ∈ lowV.ss, s.lv.length ≤ 6 by decide) s hs; omega)
  have HF5 : Hid (Vp.Fit ⟨some ⟨bh5, 0, none⟩, 1, 2, some ⟨bs5, 0, none⟩, 1, 2, none, 0, 0⟩) := Lib.hid ⟨by simp, by simp, by simp⟩
  have HL5 : Hid (LvFit oneV) := Lib.hid (fun s hs => by have : s.lv.length ≤ 6 := (show ∀ s ∈ oneV.ss, s.lv.length ≤ 6 by decide) s hs; omega)
  go_cut [153] from 119 to 153 (fun v x => v = .bool false ∧ Below V.heap.size V x)
  case first =>
    refine AnyG.startC (by as_aux_lemma => kernel_rfl) ?_
    refine AnyG.takeP (i := 0) (v := ?_) rfl (by as_aux_lemma => kernel_rfl) (fun _ _ _ h => h) rfl ?_ ?_
    rotate_left
    · (intro w'; go_simp; try with_reducible rfl)
    try simp only [Act.put, List.getElem_toArray, List.getElem_cons_succ, List.getElem_cons_zero, List.setIfInBounds_toArray, List.set_cons_zero, List.set_cons_succ]
    refine AnyG.takeP (i := 1) (v := ?_) rfl (by as_aux_lemma => kernel_rfl) (fun _ _ _ h => h) rfl ?_ ?_
    rotate_left
    · (intro w'; go_simp; try with_reducible rfl)
    try simp only [Act.put, List.getElem_toArray, List.getElem_cons_succ, List.getElem_cons_zero, List.setIfInBounds_toArray, List.set_cons_zero, List.set_cons_succ]
    refine AnyG.takeP (i := 2) (v := ?_) rfl (by as_aux_lemma => kernel_rfl) (fun _ _ _ h => h) rfl ?_ ?_
    rotate_left
    · (intro w'; go_simp; try with_reducible rfl)
    try simp only [Act.put, List.getElem_toArray, List.getElem_cons_succ, List.getElem_cons_zero, List.setIfInBounds_toArray, List.set_cons_zero, List.set_cons_succ]
    refine AnyG.enter (fun w' : World => Below V.heap.size V w') (fun i => true) ?_
    have hS : (fun w' : World => Below V.heap.size V w') (World.drew _) := (Below.refl _ _).drew
    refine AnyG.takeGC (i := 3) (v := ?_) rfl (by as_aux_lemma => kernel_rfl) (fun _ _ _ h => h) (by first | (simp [Region.wanted, yielded]; done) | simp [Region.wanted, yielded, undef]) ?_ hS ?_
    rotate_left
    · (intro w' hSw; (try dsimp only at hSw); go_simp; try with_reducible rfl)
    try simp only [Act.put, List.getElem_toArray, List.getElem_cons_succ, List.getElem_cons_zero, List.setIfInBounds_toArray, List.set_cons_zero, List.set_cons_succ]
    refine AnyG.takeGC (i := 4) (v := ?_) rfl (by as_aux_lemma => kernel_rfl) (fun _ _ _ h => h) (by first | (simp [Region.wanted, yielded]; done) | simp [Region.wanted, yielded, undef]) ?_ hS ?_
    rotate_left
    · (intro w' hSw; (try dsimp only at hSw); go_simp; try with_reducible rfl)
    try simp only [Act.put, List.getElem_toArray, List.getElem_cons_succ, List.getElem_cons_zero, List.setIfInBounds_toArray, List.set_cons_zero, List.set_cons_succ]
    refine AnyG.takeC (i := 5) (v := ?_) rfl (by as_aux_lemma => kernel_rfl) (fun _ _ _ h => h) rfl ?_ hS ?_
    rotate_left
    · (intro w' hSw; (try dsimp only at hSw); go_simp; try with_reducible rfl)
    try simp only [Act.put, List.getElem_toArray, List.getElem_cons_succ, List.getElem_cons_zero, List.setIfInBounds_toArray, List.set_cons_zero, List.set_cons_succ]
    refine AnyG.takeC (i := 6) (v := ?_) rfl (by as_aux_lemma => kernel_rfl) (fun _ _ _ h => h) rfl ?_ hS ?_
    rotate_left
    · (intro w' hSw; (try dsimp only at hSw); go_simp; try with_reducible rfl)
    try simp only [Act.put, List.getElem_toArray, List.getElem_cons_succ, List.getElem_cons_zero, List.setIfInBounds_toArray, List.set_cons_zero, List.set_cons_succ]
    refine AnyG.takeGC (i := 7) (v := ?_) rfl (by as_aux_lemma => kernel_rfl) (fun _ _ _ h => h) (by first | (simp [Region.wanted, yielded]; done) | simp [Region.wanted, yielded, undef]) ?_ hS ?_
    rotate_left
    · (intro w' hSw; (try dsimp only at hSw); go_simp; try with_reducible rfl)
    try simp only [Act.put, List.getElem_toArray, List.getElem_cons_succ, List.getElem_cons_zero, List.setIfInBounds_toArray, List.set_cons_zero, List.set_cons_succ]
    refine AnyG.takeGC (i := 8) (v := ?_) rfl (by as_aux_lemma => kernel_rfl) (fun _ _ _ h => h) (by first | (simp [Region.wanted, yielded]; done) | simp [Region.wanted, yielded, undef]) ?_ hS ?_
    rotate_left
    · (intro w' hSw; (try dsimp only at hSw); go_simp; try with_reducible rfl)
    try simp only [Act.put, List.getElem_toArray, List.getElem_cons_succ, List.getElem_cons_zero, List.setIfInBounds_toArray, List.set_cons_zero, List.set_cons_succ]
    refine AnyG.takeC (i := 9) (v := ?_) rfl (by as_aux_lemma => kernel_rfl) (fun _ _ _ h => h) rfl ?_ hS ?_
    rotate_left
    · (intro w' hSw; (try dsimp only at hSw); go_simp; try with_reducible rfl)
    try simp only [Act.put, List.getElem_toArray, List.getElem_cons_succ, List.getElem_cons_zero, List.setIfInBounds_toArray, List.set_cons_zero, List.set_cons_succ]
    refine AnyG.takeC (i := 10) (v := ?_) rfl (by as_aux_lemma => kernel_rfl) (fun _ _ _ h => h) rfl ?_ hS ?_
    rotate_left
    · (intro w' hSw; (try dsimp only at hSw); go_simp; try with_reducible rfl)
    try simp only [Act.put, List.getElem_toArray, List.getElem_cons_succ, List.getElem_cons_zero, List.setIfInBounds_toArray, List.set_cons_zero, List.set_cons_succ]
    refine AnyG.takeGC (i := 11) (v := ?_) rfl (by as_aux_lemma => kernel_rfl) (fun _ _ _ h => h) (by first | (simp [Region.wanted, yielded]; done) | simp [Region.wanted, yielded, undef]) ?_ hS ?_
    rotate_left
    · (intro w' hSw; (try dsimp only at hSw); go_simp; try with_reducible rfl)
    try simp only [Act.put, List.getElem_toArray, List.getElem_cons_succ, List.getElem_cons_zero, List.setIfInBounds_toArray, List.set_cons_zero, List.set_cons_succ]
    refine AnyG.takeGC (i := 12) (v := ?_) rfl (by as_aux_lemma => kernel_rfl) (fun _ _ _ h => h) (by first | (simp [Region.wanted, yielded]; done) | simp [Region.wanted, yielded, undef]) ?_ hS ?_
    rotate_left
    · (intro w' hSw; (try dsimp only at hSw); go_simp; try with_reducible rfl)
    try simp only [Act.put, List.getElem_toArray, List.getElem_cons_succ, List.getElem_cons_zero, List.setIfInBounds_toArray, List.set_cons_zero, List.set_cons_succ]
    refine AnyG.takeC (i := 13) (v := ?_) rfl (by as_aux_lemma => kernel_rfl) (fun _ _ _ h => h) rfl ?_ hS ?_
    rotate_left
    · (intro w' hSw; (try dsimp only at hSw); go_simp; try with_reducible rfl)
    try simp only [Act.put, List.getElem_toArray, List.getElem_cons_succ, List.getElem_cons_zero, List.setIfInBounds_toArray, List.set_cons_zero, List.set_cons_succ]
    refine AnyG.takeC (i := 14) (v := ?_) rfl (by as_aux_lemma => kernel_rfl) (fun _ _ _ h => h) rfl ?_ hS ?_
    rotate_left
    · (intro w' hSw; (try dsimp only at hSw); go_simp; try with_reducible rfl)
    try simp only [Act.put, List.getElem_toArray, List.getElem_cons_succ, List.getElem_cons_zero, List.setIfInBounds_toArray, List.set_cons_zero, List.set_cons_succ]
    refine AnyG.takeGC (i := 15) (v := ?_) rfl (by as_aux_lemma => kernel_rfl) (fun _ _ _ h => h) (by first | (simp [Region.wanted, yielded]; done) | simp [Region.wanted, yielded, undef]) ?_ hS ?_
    rotate_left
    · (intro w' hSw; (try dsimp only at hSw); go_simp; try with_reducible rfl)
    try simp only [Act.put, List.getElem_toArray, List.getElem_cons_succ, List.getElem_cons_zero, List.setIfInBounds_toArray, List.set_cons_zero, List.set_cons_succ]
    refine AnyG.takeC (i := 16) (v := ?_) rfl (by as_aux_lemma => kernel_rfl) (fun _ _ _ h => h) rfl ?_ hS ?_
    rotate_left
    · (intro w' hSw; (try dsimp only at hSw); go_simp; try with_reducible rfl)
    try simp only [Act.put, List.getElem_toArray, List.getElem_cons_succ, List.getElem_cons_zero, List.setIfInBounds_toArray, List.set_cons_zero, List.set_cons_succ]
    refine AnyG.takeC (i := 17) (v := ?_) rfl (by as_aux_lemma => kernel_rfl) (fun _ _ _ h => h) rfl ?_ hS ?_
    rotate_left
    · (intro w' hSw; (try dsimp only at hSw); go_simp; try with_reducible rfl)
    try simp only [Act.put, List.getElem_toArray, List.getElem_cons_succ, List.getElem_cons_zero, List.setIfInBounds_toArray, List.set_cons_zero, List.set_cons_succ]
    refine AnyG.takeGC (i := 18) (v := ?_) rfl (by as_aux_lemma => kernel_rfl) (fun _ _ _ h => h) (by first | (simp [Region.wanted, yielded]; done) | simp [Region.wanted, yielded, undef]) ?_ hS ?_
    rotate_left
    · (intro w' hSw; (try dsimp only at hSw); go_simp; try with_reducible rfl)
    try simp only [Act.put, List.getElem_toArray, List.getElem_cons_succ, List.getElem_cons_zero, List.setIfInBounds_toArray, List.set_cons_zero, List.set_cons_succ]
    refine AnyG.takeC (i := 19) (v := ?_) rfl (by as_aux_lemma => kernel_rfl) (fun _ _ _ h => h) rfl ?_ hS ?_
    rotate_left
    · (intro w' hSw; (try dsimp only at hSw); go_simp; try with_reducible rfl)
    try simp only [Act.put, List.getElem_toArray, List.getElem_cons_succ, List.getElem_cons_zero, List.setIfInBounds_toArray, List.set_cons_zero, List.set_cons_succ]
    refine AnyG.takeC (i := 20) (v := ?_) rfl (by as_aux_lemma => kernel_rfl) (fun _ _ _ h => h) rfl ?_ hS ?_
    rotate_left
    · (intro w' hSw; (try dsimp only at hSw); go_simp; try with_reducible rfl)
    try simp only [Act.put, List.getElem_toArray, List.getElem_cons_succ, List.getElem_cons_zero, List.setIfInBounds_toArray, List.set_cons_zero, List.set_cons_succ]
    refine AnyG.takeGC (i := 21) (v := ?_) rfl (by as_aux_lemma => kernel_rfl) (fun _ _ _ h => h) (by first | (simp [Region.wanted, yielded]; done) | simp [Region.wanted, yielded, undef]) ?_ hS ?_
    rotate_left
    · (intro w' hSw; (try dsimp only at hSw); obtain ⟨x0, x1, xf, xz⟩ := (kx.call hSw).two; go_simp; try with_reducible rfl)
    try simp only [Act.put, List.getElem_toArray, List.getElem_cons_succ, List.getElem_cons_zero, List.setIfInBounds_toArray, List.set_cons_zero, List.set_cons_succ]
    refine AnyG.oneC (i := 22) (by as_aux_lemma => kernel_rfl) rfl (by first | (simp [Region.wanted, yielded]; done) | simp [Region.wanted, yielded, undef]) ?_
    go_simp
    refine (rng_any 0 60000 _).mono ?_
    rintro e22 y22 ⟨rfl, hb22⟩
    refine Onward.on (hS.trans (hb22.mono hS.size)) (fun hS2 => ?_)
    clear hS
    have hS := hS2
    clear hS2
    try simp only [Act.put, List.getElem_toArray, List.getElem_cons_succ, List.getElem_cons_zero, List.setIfInBounds_toArray, List.set_cons_zero, List.set_cons_succ]
    refine AnyG.takeGC (i := 23) (v := ?_) rfl (by as_aux_lemma => kernel_rfl) (fun _ _ _ h => h) (by first | (simp [Region.wanted, yielded]; done) | simp [Region.wanted, yielded, undef]) ?_ hS ?_
    rotate_left
    · (intro w' hSw; (try dsimp only at hSw); go_simp; try with_reducible rfl)
    try simp only [Act.put, List.getElem_toArray, List.getElem_cons_succ, List.getElem_cons_zero, List.setIfInBounds_toArray, List.set_cons_zero, List.set_cons_succ]
    refine AnyG.takeC (i := 24) (v := ?_) rfl (by as_aux_lemma => kernel_rfl) (fun _ _ _ h => h) rfl ?_ hS ?_
    rotate_left
    · (intro w' hSw; (try dsimp only at hSw); go_simp; try with_reducible rfl)
    try simp only [Act.put, List.getElem_toArray, List.getElem_cons_succ, List.getElem_cons_zero, List.setIfInBounds_toArray, List.set_cons_zero, List.set_cons_succ]
    refine AnyG.takeC (i := 25) (v := ?_) rfl (by as_aux_lemma => kernel_rfl) (fun _ _ _ h => h) rfl ?_ hS ?_
    rotate_left
    · (intro w' hSw; (try dsimp only at hSw); go_simp; try with_reducible rfl)
    try simp only [Act.put, List.getElem_toArray, List.getElem_cons_succ, List.getElem_cons_zero, List.setIfInBounds_toArray, List.set_cons_zero, List.set_cons_succ]
    refine AnyG.takeGC (i := 26) (v := ?_) rfl (by as_aux_lemma => kernel_rfl) (fun _ _ _ h => h) (by first | (simp [Region.wanted, yielded]; done) | simp [Region.wanted, yielded, undef]) ?_ hS ?_
    rotate_left
    · (intro w' hSw; (try dsimp only at hSw); obtain ⟨x0, x1, xf, xz⟩ := (ky.call hSw).two; go_simp; try with_reducible rfl)
    try simp only [Act.put, List.getElem_toArray, List.getElem_cons_succ, List.getElem_cons_zero, List.setIfInBounds_toArray, List.set_cons_zero, List.set_cons_succ]
    refine AnyG.takeGC (i := 27) (v := ?_) rfl (by as_aux_lemma => kernel_rfl) (fun _ _ _ h => h) (by first | (simp [Region.wanted, yielded]; done) | simp [Region.wanted, yielded, undef]) ?_ hS ?_
    rotate_left
    · (intro w' hSw; (try dsimp only at hSw); obtain ⟨x0, x1, xf, xz⟩ := (kx.call hSw).two; go_simp; try with_reducible rfl)
    try simp only [Act.put, List.getElem_toArray, List.getElem_cons_succ, List.getElem_cons_zero, List.setIfInBounds_toArray, List.set_cons_zero, List.set_cons_succ]
    refine AnyG.takeGC (i := 28) (v := ?_) rfl (by as_aux_lemma => kernel_rfl) (fun _ _ _ h => h) (by first | (simp [Region.wanted, yielded]; done) | simp [Region.wanted, yielded, undef]) ?_ hS ?_
    rotate_left
    · (intro w' hSw; (try dsimp only at hSw); go_simp; try with_reducible rfl)
    try simp only [Act.put, List.getElem_toArray, List.getElem_cons_succ, List.getElem_cons_zero, List.setIfInBounds_toArray, List.set_cons_zero, List.set_cons_succ]
    refine AnyG.takeC (i := 29) (v := ?_) rfl (by as_aux_lemma => kernel_rfl) (fun _ _ _ h => h) rfl ?_ hS ?_
    rotate_left
    · (intro w' hSw; (try dsimp only at hSw); go_simp; try with_reducible rfl)
    try simp only [Act.put, List.getElem_toArray, List.getElem_cons_succ, List.getElem_cons_zero, List.setIfInBounds_toArray, List.set_cons_zero, List.set_cons_succ]
    refine AnyG.takeC (i := 30) (v := ?_) rfl (by as_aux_lemma => kernel_rfl) (fun _ _ _ h => h) rfl ?_ hS ?_
    rotate_left
    · (intro w' hSw; (try dsimp only at hSw); go_simp; try with_reducible rfl)
    try simp only [Act.put, List.getElem_toArray, List.getElem_cons_succ, List.getElem_cons_zero, List.setIfInBounds_toArray, List.set_cons_zero, List.set_cons_succ]
    refine AnyG.takeGC (i := 31) (v := ?_) rfl (by as_aux_lemma => kernel_rfl) (fun _ _ _ h => h) (by first | (simp [Region.wanted, yielded]; done) | simp [Region.wanted, yielded, undef]) ?_ hS ?_
    rotate_left
    · (intro w' hSw; (try dsimp only at hSw); obtain ⟨x0, x1, xf, xz⟩ := (kz.call hSw).two; go_simp; try with_reducible rfl)
    try simp only [Act.put, List.getElem_toArray, List.getElem_cons_succ, List.getElem_cons_zero, List.setIfInBounds_toArray, List.set_cons_zero, List.set_cons_succ]
    refine AnyG.oneC (i := 32) (by as_aux_lemma => kernel_rfl) rfl (by first | (simp [Region.wanted, yielded]; done) | simp [Region.wanted, yielded, undef]) ?_
    go_simp
    refine (rng_any 300000 330000 _).mono ?_
    rintro e32 y32 ⟨rfl, hb32⟩
    refine Onward.on (hS.trans (hb32.mono hS.size)) (fun hS2 => ?_)
    clear hS
    have hS := hS2
    clear hS2
    try simp only [Act.put, List.getElem_toArray, List.getElem_cons_succ, List.getElem_cons_zero, List.setIfInBounds_toArray, List.set_cons_zero, List.set_cons_succ]
    refine AnyG.takeGC (i := 33) (v := ?_) rfl (by as_aux_lemma => kernel_rfl) (fun _ _ _ h => h) (by first | (simp [Region.wanted, yielded]; done) | simp [Region.wanted, yielded, undef]) ?_ hS ?_
    rotate_left
    · (intro w' hSw; (try dsimp only at hSw); go_simp; try with_reducible rfl)
    try simp only [Act.put, List.getElem_toArray, List.getElem_cons_succ, List.getElem_cons_zero, List.setIfInBounds_toArray, List.set_cons_zero, List.set_cons_succ]
    refine AnyG.takeC (i := 34) (v := ?_) rfl (by as_aux_lemma => kernel_rfl) (fun _ _ _ h => h) rfl ?_ hS ?_
    rotate_left
    · (intro w' hSw; (try dsimp only at hSw); go_simp; try with_reducible rfl)
    try simp only [Act.put, List.getElem_toArray, List.getElem_cons_succ, List.getElem_cons_zero, List.setIfInBounds_toArray, List.set_cons_zero, List.set_cons_succ]
    refine AnyG.done (by as_aux_lemma => kernel_rfl) ?_ _
    go_simp
    go_wp2_with fail
    go_meet
    exact ⟨rfl, hS⟩
  case rest =>
    obtain ⟨rfl, hBX⟩ := hcut
    replace HBW := Lib.hid (HBW.out.trans (hBX.mono HBW.out.size))
    replace HK := Lib.hid (HK.out.call hBX)
    obtain ⟨V, hV⟩ : ∃ W, W = wc := ⟨_, rfl⟩
    subst hV
    clear hBX
    clear kx ky kz
    go_upto_region 17 with fail
    go_cut [11, 18, 19] from 154 to 162 (fun vc va vb x => ∃ (XA : Option Addr) (m : Nat), vc = .int .i64 0 ∧ va = .int .i64 3 ∧ vb = .slice XA 0 m ∧ Below V.heap.size V x)
    case first =>
      refine AnyG.startC (by kernel_rfl) ?_
      refine AnyG.takeP (i := 1) (v := ?_) rfl (by kernel_rfl) (fun _ _ _ h => h) rfl ?_ ?_
      rotate_left
      · (intro w'; go_simp; try with_reducible rfl)
      try simp only [Act.put, List.getElem_toArray, List.getElem_cons_succ, List.getElem_cons_zero, List.setIfInBounds_toArray, List.set_cons_zero, List.set_cons_succ]
      refine AnyG.takeP (i := 2) (v := ?_) rfl (by kernel_rfl) (fun _ _ _ h => h) rfl ?_ ?_
      rotate_left
      · (intro w'; go_simp; try with_reducible rfl)
      try simp only [Act.put, List.getElem_toArray, List.getElem_cons_succ, List.getElem_cons_zero, List.setIfInBounds_toArray, List.set_cons_zero, List.set_cons_succ]
      refine AnyG.enter (fun w' : World => Below V.heap.size V w') (fun i => true) ?_
      have hS : (fun w' : World => Below V.heap.size V w') (World.drew _) := (Below.refl _ _).drew
      refine AnyG.takeC (i := 0) (v := ?_) rfl (by kernel_rfl) (fun _ _ _ h => h) rfl ?_ hS ?_
      rotate_left
      · (intro w' hSw; (try dsimp only at hSw); obtain ⟨x0, x1, x2, x3, x4, x5, x6, xf, xz⟩ := (HK.out.call hSw).j4.seven; go_simp; try with_reducible rfl)
      try simp only [Act.put, List.getElem_toArray, List.getElem_cons_succ, List.getElem_cons_zero, List.setIfInBounds_toArray, List.set_cons_zero, List.set_cons_succ]
      refine AnyG.takeC (i := 3) (v := ?_) rfl (by kernel_rfl) (fun _ _ _ h => h) rfl ?_ hS ?_
      rotate_left
      · (intro w' hSw; (try dsimp only at hSw); have hr := (HK.out.call hSw).s0; have ca := hr.ca; go_simp; try with_reducible rfl)
      try simp only [Act.put, List.getElem_toArray, List.getElem_cons_succ, List.getElem_cons_zero, List.setIfInBounds_toArray, List.set_cons_zero, List.set_cons_succ]
      refine AnyG.one (i := 4) (by kernel_rfl) rfl rfl ?_
      go_simp
      refine (sail33_any lowV ⟨some ⟨bh4, 0, none⟩, 2, 2, some ⟨bs4, 0, none⟩, 2, 2, some ⟨bl4, 0, none⟩, 3, 3⟩ (some ⟨qs, 0, none⟩) 3 3 [0, 1, -1] _ HF4.out HL4.out (HK.out.call hS).v4 (HK.out.call hS).s0.sl rfl (by omega)).mono ?_
      rintro e4 z4 ⟨hr, hq4⟩
      rw [if_pos st6, low_over.1, low_over.2] at hr
      obtain ⟨XA, m, rfl, -⟩ := hr
      rw [List.length_nil]
      refine Onward.on (hS.trans (hq4.mono hS.size)) (fun hS2 => ?_)
      clear hS
      have hS := hS2
      clear hS2
      try simp only [Act.put, List.getElem_toArray, List.getElem_cons_succ, List.getElem_cons_zero, List.setIfInBounds_toArray, List.set_cons_zero, List.set_cons_succ]
      refine AnyG.takeC (i := 5) (v := ?_) rfl (by kernel_rfl) (fun _ _ _ h => h) rfl ?_ hS ?_
      rotate_left
      · (intro w' hSw; (try dsimp only at hSw); go_simp; try with_reducible rfl)
      try simp only [Act.put, List.getElem_toArray, List.getElem_cons_succ, List.getElem_cons_zero, List.setIfInBounds_toArray, List.set_cons_zero, List.set_cons_succ]
      refine AnyG.takeC (i := 6) (v := ?_) rfl (by kernel_rfl) (fun _ _ _ h => h) rfl ?_ hS ?_
      rotate_left
      · (intro w' hSw; (try dsimp only at hSw); go_simp; try with_reducible rfl)
      try simp only [Act.put, List.getElem_toArray, List.getElem_cons_succ, List.getElem_cons_zero, List.setIfInBounds_toArray, List.set_cons_zero, List.set_cons_succ]
      refine AnyG.takeC (i := 7) (v := ?_) rfl (by kernel_rfl) (fun _ _ _ h => h) rfl ?_ hS ?_
      rotate_left
      · (intro w' hSw; (try dsimp only at hSw); go_simp; try with_reducible rfl)
      try simp only [Act.put, List.getElem_toArray, List.getElem_cons_succ, List.getElem_cons_zero, List.setIfInBounds_toArray, List.set_cons_zero, List.set_cons_succ]
      refine AnyG.takeC (i := 8) (v := ?_) rfl (by kernel_rfl) (fun _ _ _ h => h) rfl ?_ hS ?_
      rotate_left
      · (intro w' hSw; (try dsimp only at hSw); go_simp; try with_reducible rfl)
      try simp only [Act.put, List.getElem_toArray, List.getElem_cons_succ, List.getElem_cons_zero, List.setIfInBounds_toArray, List.set_cons_zero, List.set_cons_succ]
      refine AnyG.takeC (i := 9) (v := ?_) rfl (by kernel_rfl) (fun _ _ _ h => h) rfl ?_ hS ?_
      rotate_left
      · (intro w' hSw; (try dsimp only at hSw); go_simp; try with_reducible rfl)
      try simp only [Act.put, List.getElem_toArray, List.getElem_cons_succ, List.getElem_cons_zero, List.setIfInBounds_toArray, List.set_cons_zero, List.set_cons_succ]
      refine AnyG.takeC (i := 10) (v := ?_) rfl (by kernel_rfl) (fun _ _ _ h => h) rfl ?_ hS ?_
      rotate_left
      · (intro w' hSw; (try dsimp only at hSw); go_simp; try with_reducible rfl)
      try simp only [Act.put, List.getElem_toArray, List.getElem_cons_succ, List.getElem_cons_zero, List.setIfInBounds_toArray, List.set_cons_zero, List.set_cons_succ]
      refine AnyG.takeC (i := 11) (v := ?_) rfl (by kernel_rfl) (fun _ _ _ h => h) rfl ?_ hS ?_
      rotate_left
      · (intro w' hSw; (try dsimp only at hSw); go_simp; try with_reducible rfl)
      try simp only [Act.put, List.getElem_toArray, List.getElem_cons_succ, List.getElem_cons_zero, List.setIfInBounds_toArray, List.set_cons_zero, List.set_cons_succ]
      refine AnyG.done (by kernel_rfl) ?_ _
      go_simp
      go_wp2_with fail
      go_meet
      exact ⟨XA, m, rfl, rfl, rfl, hS⟩
    case rest =>
      obtain ⟨XA, mA, rfl, rfl, rfl, hBX⟩ := hcut
      replace HBW := Lib.hid (HBW.out.trans (hBX.mono HBW.out.size))
      replace HK := Lib.hid (HK.out.call hBX)
      obtain ⟨V, hV⟩ : ∃ W, W = wc := ⟨_, rfl⟩
      subst hV
      clear hBX
      go_upto_region 18 with fail
      go_cut [14, 20, 21] from 163 to 169 (fun vc va vb x => ∃ (XB : Option Addr) (m : Nat), vc = .int .i64 0 ∧ va = .int .i64 2 ∧ vb = .slice XB 0 m ∧ Below V.heap.size V x)
      case first =>
        go_wp2_with (first
          | (go_at_call 4; refine (voyage_any _).mono ?_; rintro e z2 ⟨⟨p, hF, -, rfl, hV⟩, hz2⟩; rw [vcs_def])
          | (go_at_call 10; have b1 := bel1 z2 (.cells #[.int .i64 0, .int .i64 (-1), .int .i64 0] 3); refine (sail33_any exV p (some ⟨z2.heap.size, 0, none⟩) 3 3 [0, -1, 0] _ hF ex_lf (hV.call b1) (ints_sl (Bx.new z2 3 #[.int .i64 0, .int .i64 (-1), .int .i64 0]) rfl) rfl (by omega)).mono ?_; rintro e z3 ⟨hr, hz3⟩; rw [if_pos st7, no_over.1, no_over.2] at hr; obtain ⟨XB, m2, rfl, -⟩ := hr; rw [List.length_nil]; have B3 := (hz2.trans (b1.mono hz2.size)).trans (hz3.mono (hz2.trans (b1.mono hz2.size)).size))
          | fail)
        go_meet
        exact ⟨XB, m2, rfl, rfl, rfl, B3⟩
      case rest =>
        obtain ⟨XB, mB, rfl, rfl, rfl, hBX⟩ := hcut
        replace HBW := Lib.hid (HBW.out.trans (hBX.mono HBW.out.size))
        replace HK := Lib.hid (HK.out.call hBX)
        obtain ⟨V, hV⟩ : ∃ W, W = wc := ⟨_, rfl⟩
        subst hV
        clear hBX
        go_upto_region 19 with fail
        go_cut [17, 22] from 170 to 174 (fun vc va x => vc = .int .i64 0 ∧ va = .string (billT oneV) ∧ Below V.heap.size V x)
        case first =>
          obtain ⟨x0, x1, x2, x3, x4, x5, x6, xf, xz⟩ := HK.out.j5.seven
          go_wp2_with (first
            | (go_at_call 11; refine (write_any oneV ⟨some ⟨bh5, 0, none⟩, 1, 2, some ⟨bs5, 0, none⟩, 1, 2, none, 0, 0⟩ V HK.out.tab HF5.out HL5.out HK.out.v5).mono ?_; rintro e z3 ⟨rfl, hz3⟩; rw [if_pos one_ck])
            | fail)
          clear x0 x1 x2 x3 x4 x5 x6 xf xz
          go_meet
          exact ⟨rfl, rfl, hz3⟩
        case rest =>
          obtain ⟨rfl, rfl, hBX⟩ := hcut
          replace HBW := Lib.hid (HBW.out.trans (hBX.mono HBW.out.size))
          replace HK := Lib.hid (HK.out.call hBX)
          obtain ⟨V, hV⟩ : ∃ W, W = wc := ⟨_, rfl⟩
          subst hV
          clear hBX
          rw [one_lit]
          go_wp2_with fail
          go_ret
          exact ⟨rfl, HBW.out⟩
theorem known_run (w : World) (hT : Tab w.heap.size w) : Calls Tryd.prog 3 #[] w fun e w' => e = .returned (.bool true) ∧ Below w.heap.size w w' :=
  (known_A w).2 ⟨(known_B w).2 ⟨(known_C w).2 ⟨known_D w⟩⟩⟩ hT
end Go.Proofs.YtdlohfglmagneaaDoor
