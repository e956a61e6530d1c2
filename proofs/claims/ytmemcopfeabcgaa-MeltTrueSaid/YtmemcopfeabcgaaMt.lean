/- MeltTrue. -/
import Derived.Test.YtmemcopfeabcgaaGm
set_option linter.unusedSimpArgs false
set_option linter.unusedVariables false
namespace Go.Proofs.Ytmemcopfeabcgaa
open Go Go.RowKit
theorem kv_cases (o : Od) (b : Nat → Int) : kv o b = 1 ∨ kv o b = 2 ∨ kv o b = 3 := by
  unfold kv; split
  · exact .inr (.inl rfl)
  · split
    · exact .inr (.inr rfl)
    · exact .inl rfl
set_option maxRecDepth 100000 in
set_option maxHeartbeats 8000000 in
theorem meltTrue_run (A : Option Addr) (n c : Nat) (L : List Int) (w : World) (hn : n ≤ 9000000000000000000) (hl : L.length = n) (hA : Sl w w.heap.size 1 A (ints L)) : Calls Try.prog 3 #[.slice A n c] w fun e w' => e = .returned (.bool true) ∧ Below w.heap.size w w' := by
  have HL := Lib.hid hl
  clear hl
  obtain ⟨i3, hi3, hz3, hs3, iy3⟩ := info_parts info3'
  obtain ⟨i22, hi22, hz22, hs22, iy22⟩ := info_parts info22
  go_enter Try.func3, Try.ntmps3
  go_upto_region 3 with (first
    | (go_at_call 13; refine (feedOf_any A n c L _ hn HL.out hA).mono ?_; rintro e w1 ⟨⟨g, rfl, hg0, hfd⟩, hb1⟩)
    | (go_at_call 14; refine (orderOf_any g 4 3 5 _ hfd (by omega) (by omega) (by omega) (by omega) (by omega) (by omega)).mono ?_; rintro e w2 ⟨o, LA, BA, lc, bc, rfl, hsm, hO0, hfd2, hgr2⟩)
    | fail)
  have hok := hsm.ok (by omega) (by omega) (by omega)
  have HSM := Lib.hid hsm
  obtain ⟨ln, hln⟩ : ∃ k, o.lm.length = k := ⟨_, rfl⟩
  obtain ⟨bn, hbn⟩ : ∃ k, o.bs.length = k := ⟨_, rfl⟩
  have hln3 : ln ≤ 3 := by rw [← hln]; exact hok.lm
  have hbn4 : bn ≤ 4 := by rw [← hbn]; exact hok.b2
  have hbn1 : 1 ≤ bn := by rw [← hbn]; exact hok.b1
  rw [hln, hbn]
  have hBw : Below w.heap.size w w2 := hb1.grown hgr2 hb1.size (fun k e => by cases e; exact hg0)
  have B1 := (Below.refl w2.heap.size w2).alloc (Nat.le_refl _) (.cells #[.slice LA ln lc, .int .i64 o.le, .int .i64 o.mo, .slice BA bn bc] 27)
  have kO := Bx.new w2 27 #[.slice LA ln lc, .int .i64 o.le, .int .i64 o.mo, .slice BA bn bc]
  have hO := hO0.call B1
  have hF := hfd2.alloc (.cells #[.slice LA ln lc, .int .i64 o.le, .int .i64 o.mo, .slice BA bn bc] 27)
  have hB := hBw.alloc hBw.size (.cells #[.slice LA ln lc, .int .i64 o.le, .int .i64 o.mo, .slice BA bn bc] 27)
  have hgl := hfd2.lt
  obtain ⟨V1, hV⟩ : ∃ V, w2.alloc (.cells #[.slice LA ln lc, .int .i64 o.le, .int .i64 o.mo, .slice BA bn bc] 27) = V := ⟨_, rfl⟩
  rw [hV] at kO hO hF hB ⊢
  obtain ⟨bO, hbO⟩ : ∃ b, w2.heap.size = b := ⟨_, rfl⟩
  rw [hbO] at kO ⊢
  have hgO : bO ≠ g := by omega
  have HLN := Lib.hid hln
  have HBN := Lib.hid hbn
  have HOK := Lib.hid hok
  have hwg := hg0
  clear hV hbO B1 hO0 hfd2 hgr2 hb1 hfd hln hbn hok hBw hsm hgl
  obtain ⟨l0, l1, l2, l3, lf', lz⟩ := kO.four
  go_upto_region 4 with (first
    | (go_at_call 15; refine (kBlendOf_any g LA ln lc BA bn bc o _ hF HLN.out HBN.out hO HOK.out).mono ?_; rintro e w3 ⟨⟨SA, sc, BL, rfl, hBL, hz, hS⟩, hF3, hg3⟩)
    | fail)
  have kO3 := kO.grown hg3 (by simpa using hgO)
  have hO3 := FT.ord ⟨hg3, hF3⟩ hF hO
  have hB3 := hB.grown hg3 hB.size (fun k e => by cases e; exact hwg)
  clear l0 l1 l2 l3 lf' lz kO hO hB hF hg3
  obtain ⟨l0, l1, l2, l3, lf', lz⟩ := kO3.four
  have HBL := Lib.hid hBL
  have HZ := Lib.hid hz
  clear hBL hz
  go_upto_region 5 with (first
    | (go_at_call 16; refine (keeps_ok LA ln lc BA bn bc o SA bn sc BL _ (by omega) (by omega) HLN.out HBN.out hO3 (by omega) HBL.out hS HZ.out).mono ?_; rintro e V ⟨rfl, hq⟩)
    | fail)
  clear l0 l1 l2 l3 lf' lz
  have hOV := hO3.call hq
  have kV := kO3.call hq
  have hSV := (hS.below hq).more hq.size
  have hBV := hB3.trans (hq.mono hB3.size)
  have hFV := Fd.below hF3 hq
  clear hq hO3 kO3 hS hB3 hF3
  have hok2 := ckBl_zero HZ.out
  have HSIX := Lib.hid hok2.six
  have hk3 := kv_cases o (lf BL)
  obtain ⟨kvv, hkv⟩ : ∃ x, kv o (lf BL) = x := ⟨_, rfl⟩
  rw [hkv] at hk3 ⊢
  have HKV := Lib.hid hkv
  clear hok2 hkv
  rcases hk3 with rfl | rfl | rfl
  · go_wp2_with fail
    go_loopw [8] (fun v wr => ∃ (r : Nat), v = .int .i64 r ∧ r ≤ 8 ∧ FT g V wr) (fun v _ => 8 - (intOf v).toNat)
    case atStart => exact ⟨0, rfl, by omega, .self hFV⟩
    case round =>
      obtain ⟨r, rfl, hr, hT⟩ := hrel
      by_cases hr8 : r < 8
      · have hrw : IntKind.i64.wrap ((r : Int) + 1) = (r : Int) + 1 := IntWalk.i64_in _ (by omega)
        have hr8i : (r : Int) < 8 := by omega
        go_wp2_with fail
        refine AnyG.startC (by kernel_rfl) ?_
        refine AnyG.takeP (i := 1) (v := ?_) rfl (by kernel_rfl) (fun _ _ _ h => h) rfl ?_ ?_
        rotate_left
        · (intro w'; go_simp; try with_reducible rfl)
        try simp only [Act.put, List.getElem_toArray, List.getElem_cons_succ, List.getElem_cons_zero, List.setIfInBounds_toArray, List.set_cons_zero, List.set_cons_succ]
        refine AnyG.takeP (i := 2) (v := ?_) rfl (by kernel_rfl) (fun _ _ _ h => h) rfl ?_ ?_
        rotate_left
        · (intro w'; go_simp; try with_reducible rfl)
        try simp only [Act.put, List.getElem_toArray, List.getElem_cons_succ, List.getElem_cons_zero, List.setIfInBounds_toArray, List.set_cons_zero, List.set_cons_succ]
        refine AnyG.takeP (i := 4) (v := ?_) rfl (by kernel_rfl) (fun _ _ _ h => h) rfl ?_ ?_
        rotate_left
        · (intro w'; go_simp; try with_reducible rfl)
        try simp only [Act.put, List.getElem_toArray, List.getElem_cons_succ, List.getElem_cons_zero, List.setIfInBounds_toArray, List.set_cons_zero, List.set_cons_succ]
        refine AnyG.enter (fun w' : World => FT g V w') (fun i => true) ?_
        have hS : (fun w' : World => FT g V w') (World.drew _) := (hT.drew)
        refine AnyG.takeC (i := 0) (v := ?_) rfl (by kernel_rfl) (fun _ _ _ h => h) rfl ?_ hS ?_
        rotate_left
        · (intro w' hSw; (try dsimp only at hSw); obtain ⟨l0, l1, l2, l3, lf', lz⟩ := (hSw.bx kV hgO).four; go_simp; try with_reducible rfl)
        try simp only [Act.put, List.getElem_toArray, List.getElem_cons_succ, List.getElem_cons_zero, List.setIfInBounds_toArray, List.set_cons_zero, List.set_cons_succ]
        refine AnyG.takeC (i := 3) (v := ?_) rfl (by kernel_rfl) (fun _ _ _ h => h) rfl ?_ hS ?_
        rotate_left
        · (intro w' hSw; (try dsimp only at hSw); obtain ⟨l0, l1, l2, l3, lf', lz⟩ := (hSw.bx kV hgO).four; go_simp; try with_reducible rfl)
        try simp only [Act.put, List.getElem_toArray, List.getElem_cons_succ, List.getElem_cons_zero, List.setIfInBounds_toArray, List.set_cons_zero, List.set_cons_succ]
        refine AnyG.one (i := 5) (by kernel_rfl) rfl rfl ?_
        go_simp
        refine (gramsOf_any g LA ln lc BA bn bc o SA sc BL _ hS.2 HLN.out HBN.out (hS.ord hFV hOV) HBL.out (hS.sl hFV hSV (inr_no _)) HZ.out).mono ?_
        rintro er y5 ⟨⟨OA, oc, GM, rfl, hgm, hls⟩, hf5, hg5⟩
        refine Onward.on (hS.call hg5 hf5) (fun hS2 => ?_)
        clear hS
        have hS := hS2
        clear hS2
        try simp only [Act.put, List.getElem_toArray, List.getElem_cons_succ, List.getElem_cons_zero, List.setIfInBounds_toArray, List.set_cons_zero, List.set_cons_succ]
        refine AnyG.one (i := 6) (by kernel_rfl) rfl rfl ?_
        go_simp
        have htb : kept o (lf BL) (gmOf GM) ln = true := by have := kept_always HOK.out HSIX.out (gm := gmOf GM) (fun i t j h1 h2 h3 => (hgm.gm (by rw [← HBN.out]; exact h1) h2 (by rw [← HLN.out]; exact h3)).2) HKV.out; rwa [HLN.out] at this
        obtain ⟨gn, hgn⟩ : ∃ x, GM.length = x := ⟨_, rfl⟩
        rw [hgn]
        refine (kept_any LA ln lc BA bn bc o SA bn sc BL OA gn oc GM _ HLN.out HBN.out (hS.ord hFV hOV) HBL.out (hS.sl hFV hSV (inr_no _)) HZ.out hls hgn (by rw [← hgn, hgm.len, ixOf_len]) (hgm.all HOK.out (by rw [HBN.out]; exact Nat.le_refl _))).mono ?_
        rintro er y6 ⟨rfl, hb6⟩
        rw [htb]
        refine Onward.on (hS.bel hb6) (fun hS2 => ?_)
        clear hS
        have hS := hS2
        clear hS2
        try simp only [Act.put, List.getElem_toArray, List.getElem_cons_succ, List.getElem_cons_zero, List.setIfInBounds_toArray, List.set_cons_zero, List.set_cons_succ]
        refine AnyG.takeC (i := 7) (v := ?_) rfl (by kernel_rfl) (fun _ _ _ h => h) rfl ?_ hS ?_
        rotate_left
        · (intro w' hSw; (try dsimp only at hSw); go_simp; try with_reducible rfl)
        try simp only [Act.put, List.getElem_toArray, List.getElem_cons_succ, List.getElem_cons_zero, List.setIfInBounds_toArray, List.set_cons_zero, List.set_cons_succ]
        refine AnyG.done (by kernel_rfl) ?_ _
        go_simp
        go_wp2_with fail
        go_roundw
        case rel => exact ⟨r + 1, by go_num, by omega, hS⟩
        case measure => simp [intOf]; omega
      · obtain rfl : r = 8 := by omega
        have hBr := hT.be hBV hwg
        go_wp2_with (first | (go_at_call 19; refine (alive_any _).mono ?_; rintro e z3 ⟨rfl, hq3⟩) | fail)
        go_ret
        exact ⟨rfl, hBr.trans (hq3.mono hBr.size)⟩
  · go_wp2_with fail
    go_loopw [8] (fun v wr => ∃ (r : Nat), v = .int .i64 r ∧ r ≤ 8 ∧ FT g V wr) (fun v _ => 8 - (intOf v).toNat)
    case atStart => exact ⟨0, rfl, by omega, .self hFV⟩
    case round =>
      obtain ⟨r, rfl, hr, hT⟩ := hrel
      by_cases hr8 : r < 8
      · have hrw : IntKind.i64.wrap ((r : Int) + 1) = (r : Int) + 1 := IntWalk.i64_in _ (by omega)
        have hr8i : (r : Int) < 8 := by omega
        go_wp2_with fail
        refine AnyG.startC (by kernel_rfl) ?_
        refine AnyG.takeP (i := 1) (v := ?_) rfl (by kernel_rfl) (fun _ _ _ h => h) rfl ?_ ?_
        rotate_left
        · (intro w'; go_simp; try with_reducible rfl)
        try simp only [Act.put, List.getElem_toArray, List.getElem_cons_succ, List.getElem_cons_zero, List.setIfInBounds_toArray, List.set_cons_zero, List.set_cons_succ]
        refine AnyG.takeP (i := 2) (v := ?_) rfl (by kernel_rfl) (fun _ _ _ h => h) rfl ?_ ?_
        rotate_left
        · (intro w'; go_simp; try with_reducible rfl)
        try simp only [Act.put, List.getElem_toArray, List.getElem_cons_succ, List.getElem_cons_zero, List.setIfInBounds_toArray, List.set_cons_zero, List.set_cons_succ]
        refine AnyG.takeP (i := 4) (v := ?_) rfl (by kernel_rfl) (fun _ _ _ h => h) rfl ?_ ?_
        rotate_left
        · (intro w'; go_simp; try with_reducible rfl)
        try simp only [Act.put, List.getElem_toArray, List.getElem_cons_succ, List.getElem_cons_zero, List.setIfInBounds_toArray, List.set_cons_zero, List.set_cons_succ]
        refine AnyG.enter (fun w' : World => FT g V w') (fun i => true) ?_
        have hS : (fun w' : World => FT g V w') (World.drew _) := (hT.drew)
        refine AnyG.takeC (i := 0) (v := ?_) rfl (by kernel_rfl) (fun _ _ _ h => h) rfl ?_ hS ?_
        rotate_left
        · (intro w' hSw; (try dsimp only at hSw); obtain ⟨l0, l1, l2, l3, lf', lz⟩ := (hSw.bx kV hgO).four; go_simp; try with_reducible rfl)
        try simp only [Act.put, List.getElem_toArray, List.getElem_cons_succ, List.getElem_cons_zero, List.setIfInBounds_toArray, List.set_cons_zero, List.set_cons_succ]
        refine AnyG.takeC (i := 3) (v := ?_) rfl (by kernel_rfl) (fun _ _ _ h => h) rfl ?_ hS ?_
        rotate_left
        · (intro w' hSw; (try dsimp only at hSw); obtain ⟨l0, l1, l2, l3, lf', lz⟩ := (hSw.bx kV hgO).four; go_simp; try with_reducible rfl)
        try simp only [Act.put, List.getElem_toArray, List.getElem_cons_succ, List.getElem_cons_zero, List.setIfInBounds_toArray, List.set_cons_zero, List.set_cons_succ]
        refine AnyG.one (i := 5) (by kernel_rfl) rfl rfl ?_
        go_simp
        refine (gramsOf_any g LA ln lc BA bn bc o SA sc BL _ hS.2 HLN.out HBN.out (hS.ord hFV hOV) HBL.out (hS.sl hFV hSV (inr_no _)) HZ.out).mono ?_
        rintro er y5 ⟨⟨OA, oc, GM, rfl, hgm, hls⟩, hf5, hg5⟩
        refine Onward.on (hS.call hg5 hf5) (fun hS2 => ?_)
        clear hS
        have hS := hS2
        clear hS2
        try simp only [Act.put, List.getElem_toArray, List.getElem_cons_succ, List.getElem_cons_zero, List.setIfInBounds_toArray, List.set_cons_zero, List.set_cons_succ]
        refine AnyG.one (i := 6) (by kernel_rfl) rfl rfl ?_
        go_simp
        have htb : kept o (lf BL) (gmOf GM) ln = false := by have := kept_nowhere HOK.out HSIX.out (gm := gmOf GM) (fun i t j h1 h2 h3 => (hgm.gm (by rw [← HBN.out]; exact h1) h2 (by rw [← HLN.out]; exact h3)).1) HKV.out; rwa [HLN.out] at this
        obtain ⟨gn, hgn⟩ : ∃ x, GM.length = x := ⟨_, rfl⟩
        rw [hgn]
        refine (kept_any LA ln lc BA bn bc o SA bn sc BL OA gn oc GM _ HLN.out HBN.out (hS.ord hFV hOV) HBL.out (hS.sl hFV hSV (inr_no _)) HZ.out hls hgn (by rw [← hgn, hgm.len, ixOf_len]) (hgm.all HOK.out (by rw [HBN.out]; exact Nat.le_refl _))).mono ?_
        rintro er y6 ⟨rfl, hb6⟩
        rw [htb]
        refine Onward.on (hS.bel hb6) (fun hS2 => ?_)
        clear hS
        have hS := hS2
        clear hS2
        try simp only [Act.put, List.getElem_toArray, List.getElem_cons_succ, List.getElem_cons_zero, List.setIfInBounds_toArray, List.set_cons_zero, List.set_cons_succ]
        refine AnyG.takeC (i := 7) (v := ?_) rfl (by kernel_rfl) (fun _ _ _ h => h) rfl ?_ hS ?_
        rotate_left
        · (intro w' hSw; (try dsimp only at hSw); go_simp; try with_reducible rfl)
        try simp only [Act.put, List.getElem_toArray, List.getElem_cons_succ, List.getElem_cons_zero, List.setIfInBounds_toArray, List.set_cons_zero, List.set_cons_succ]
        refine AnyG.done (by kernel_rfl) ?_ _
        go_simp
        go_wp2_with fail
        go_roundw
        case rel => exact ⟨r + 1, by go_num, by omega, hS⟩
        case measure => simp [intOf]; omega
      · obtain rfl : r = 8 := by omega
        have hBr := hT.be hBV hwg
        go_wp2_with (first | (go_at_call 19; refine (alive_any _).mono ?_; rintro e z3 ⟨rfl, hq3⟩) | fail)
        go_ret
        exact ⟨rfl, hBr.trans (hq3.mono hBr.size)⟩
  · go_wp2_with fail
    go_loopw [8] (fun v wr => ∃ (r : Nat), v = .int .i64 r ∧ r ≤ 8 ∧ FT g V wr) (fun v _ => 8 - (intOf v).toNat)
    case atStart => exact ⟨0, rfl, by omega, .self hFV⟩
    case round =>
      obtain ⟨r, rfl, hr, hT⟩ := hrel
      by_cases hr8 : r < 8
      · have hrw : IntKind.i64.wrap ((r : Int) + 1) = (r : Int) + 1 := IntWalk.i64_in _ (by omega)
        have hr8i : (r : Int) < 8 := by omega
        go_wp2_with fail
        refine AnyG.startC (by kernel_rfl) ?_
        refine AnyG.takeP (i := 1) (v := ?_) rfl (by kernel_rfl) (fun _ _ _ h => h) rfl ?_ ?_
        rotate_left
        · (intro w'; go_simp; try with_reducible rfl)
        try simp only [Act.put, List.getElem_toArray, List.getElem_cons_succ, List.getElem_cons_zero, List.setIfInBounds_toArray, List.set_cons_zero, List.set_cons_succ]
        refine AnyG.takeP (i := 2) (v := ?_) rfl (by kernel_rfl) (fun _ _ _ h => h) rfl ?_ ?_
        rotate_left
        · (intro w'; go_simp; try with_reducible rfl)
        try simp only [Act.put, List.getElem_toArray, List.getElem_cons_succ, List.getElem_cons_zero, List.setIfInBounds_toArray, List.set_cons_zero, List.set_cons_succ]
        refine AnyG.takeP (i := 4) (v := ?_) rfl (by kernel_rfl) (fun _ _ _ h => h) rfl ?_ ?_
        rotate_left
        · (intro w'; go_simp; try with_reducible rfl)
        try simp only [Act.put, List.getElem_toArray, List.getElem_cons_succ, List.getElem_cons_zero, List.setIfInBounds_toArray, List.set_cons_zero, List.set_cons_succ]
        refine AnyG.enter (fun w' : World => FT g V w') (fun i => true) ?_
        have hS : (fun w' : World => FT g V w') (World.drew _) := (hT.drew)
        refine AnyG.takeC (i := 0) (v := ?_) rfl (by kernel_rfl) (fun _ _ _ h => h) rfl ?_ hS ?_
        rotate_left
        · (intro w' hSw; (try dsimp only at hSw); obtain ⟨l0, l1, l2, l3, lf', lz⟩ := (hSw.bx kV hgO).four; go_simp; try with_reducible rfl)
        try simp only [Act.put, List.getElem_toArray, List.getElem_cons_succ, List.getElem_cons_zero, List.setIfInBounds_toArray, List.set_cons_zero, List.set_cons_succ]
        refine AnyG.takeC (i := 3) (v := ?_) rfl (by kernel_rfl) (fun _ _ _ h => h) rfl ?_ hS ?_
        rotate_left
        · (intro w' hSw; (try dsimp only at hSw); obtain ⟨l0, l1, l2, l3, lf', lz⟩ := (hSw.bx kV hgO).four; go_simp; try with_reducible rfl)
        try simp only [Act.put, List.getElem_toArray, List.getElem_cons_succ, List.getElem_cons_zero, List.setIfInBounds_toArray, List.set_cons_zero, List.set_cons_succ]
        refine AnyG.one (i := 5) (by kernel_rfl) rfl rfl ?_
        go_simp
        refine (gramsOf_any g LA ln lc BA bn bc o SA sc BL _ hS.2 HLN.out HBN.out (hS.ord hFV hOV) HBL.out (hS.sl hFV hSV (inr_no _)) HZ.out).mono ?_
        rintro er y5 ⟨⟨OA, oc, GM, rfl, hgm, hls⟩, hf5, hg5⟩
        refine Onward.on (hS.call hg5 hf5) (fun hS2 => ?_)
        clear hS
        have hS := hS2
        clear hS2
        try simp only [Act.put, List.getElem_toArray, List.getElem_cons_succ, List.getElem_cons_zero, List.setIfInBounds_toArray, List.set_cons_zero, List.set_cons_succ]
        refine AnyG.one (i := 6) (by kernel_rfl) rfl rfl ?_
        go_simp
        obtain ⟨tb, htb⟩ : ∃ t, kept o (lf BL) (gmOf GM) ln = t := ⟨_, rfl⟩
        obtain ⟨gn, hgn⟩ : ∃ x, GM.length = x := ⟨_, rfl⟩
        rw [hgn]
        refine (kept_any LA ln lc BA bn bc o SA bn sc BL OA gn oc GM _ HLN.out HBN.out (hS.ord hFV hOV) HBL.out (hS.sl hFV hSV (inr_no _)) HZ.out hls hgn (by rw [← hgn, hgm.len, ixOf_len]) (hgm.all HOK.out (by rw [HBN.out]; exact Nat.le_refl _))).mono ?_
        rintro er y6 ⟨rfl, hb6⟩
        rw [htb]
        refine Onward.on (hS.bel hb6) (fun hS2 => ?_)
        clear hS
        have hS := hS2
        clear hS2
        try simp only [Act.put, List.getElem_toArray, List.getElem_cons_succ, List.getElem_cons_zero, List.setIfInBounds_toArray, List.set_cons_zero, List.set_cons_succ]
        refine AnyG.takeC (i := 7) (v := ?_) rfl (by kernel_rfl) (fun _ _ _ h => h) rfl ?_ hS ?_
        rotate_left
        · (intro w' hSw; (try dsimp only at hSw); go_simp; try with_reducible rfl)
        try simp only [Act.put, List.getElem_toArray, List.getElem_cons_succ, List.getElem_cons_zero, List.setIfInBounds_toArray, List.set_cons_zero, List.set_cons_succ]
        refine AnyG.done (by kernel_rfl) ?_ _
        go_simp
        cases tb
        · go_wp2_with fail
          go_roundw
          case rel => exact ⟨r + 1, by go_num, by omega, hS⟩
          case measure => simp [intOf]; omega
        · go_wp2_with fail
          go_roundw
          case rel => exact ⟨r + 1, by go_num, by omega, hS⟩
          case measure => simp [intOf]; omega
      · obtain rfl : r = 8 := by omega
        have hBr := hT.be hBV hwg
        go_wp2_with (first | (go_at_call 19; refine (alive_any _).mono ?_; rintro e z3 ⟨rfl, hq3⟩) | fail)
        go_ret
        exact ⟨rfl, hBr.trans (hq3.mono hBr.size)⟩
end Go.Proofs.Ytmemcopfeabcgaa
