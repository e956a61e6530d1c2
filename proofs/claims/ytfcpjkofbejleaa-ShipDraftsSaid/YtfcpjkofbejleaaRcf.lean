/- The reference: Ends 87. -/
import Derived.Test.YtfcpjkofbejleaaRce
set_option linter.unusedSimpArgs false
set_option linter.unusedVariables false
namespace Go.Proofs.Ytfcpjkofbejleaa
open Go Go.RowKit
theorem trS_bd9 {f : Int → Hd → Int} {hs : List Hd} {Z : List (Int × Int)} (h : ∀ p ∈ Z, 0 ≤ p.2 → 0 ≤ f p.1 (hd hs p.2) ∧ f p.1 (hd hs p.2) ≤ 50000000) (k : Nat) (hk : k ≤ 6) : 0 ≤ trS f hs (Z.take k) ∧ trS f hs (Z.take k) ≤ 300000000 := by
  have a := trS_bd (f := f) (hs := hs) (M := 50000000) (by omega) (Z := Z.take k) (fun p hp => h p (List.mem_of_mem_take hp))
  have b : (Z.take k).length ≤ k := by rw [List.length_take]; omega
  have c : (50000000 : Int) * ((Z.take k).length : Int) ≤ 50000000 * 6 := Int.mul_le_mul_of_nonneg_left (by omega) (by omega)
  omega
set_option maxRecDepth 100000 in
set_option maxHeartbeats 3200000 in
theorem refEnds_any (v : Vg) (p : Vp) (A : Option Addr) (sn sc : Nat) (s : List Int) (TA : Option Addr) (tc : Nat) (ts : List Int) (w : World) (ho : v.Ok) (hV : VoyAt w w.heap.size v p) (hS0 : Sl w w.heap.size 1 A (inr s)) (hT0 : Sl w w.heap.size 1 TA (inr ts)) (hl : s.length = sn) (htl : ts.length = sn) (hsn : sn ≤ 6) (hin : InH v.hs.length s) (ht : ∀ n ∈ ts, 0 ≤ n ∧ n ≤ 5000) :
    Calls Try.prog 87 #[.agg (vcs v p), .slice A sn sc, .slice TA sn tc] w fun e w' => e = .returned (.tuple #[.int .i64 (1000 * v.li + trS (fun n h => n * h.bw) v.hs (ts.zip s)), .int .i64 (1000 * v.li + trS (fun n h => n * h.st) v.hs (ts.zip s))]) ∧ Below w.heap.size w w' := by
  have k0 := Bx.new w 26 (vcs v p)
  have B0 := (Below.refl w.heap.size w).alloc (Nat.le_refl _) (.cells (vcs v p) 26)
  have hV1 := hV.call B0
  have hS1 := hS0.call B0
  have hT1 := hT0.call B0
  have HHL := Lib.hid hV.hl
  have HSL := Lib.hid hl
  have HTL := Lib.hid htl
  have HIN := Lib.hid hin
  have HT := Lib.hid ht
  have HO := Lib.hid ho
  have hli := ho.li
  have hzl : (ts.zip s).length = sn := by rw [List.length_zip, hl, htl]; simp
  have HZL := Lib.hid hzl
  have hmem : ∀ q ∈ ts.zip s, 0 ≤ q.2 → (0 ≤ q.1 ∧ q.1 ≤ 5000) ∧ (hd v.hs q.2).Ok := fun q hq h0 => by
    have a := List.of_mem_zip (a := q.1) (b := q.2) (by simpa using hq)
    refine ⟨ht _ a.1, ?_⟩
    have b := hin _ a.2
    unfold hd
    have c : q.2.toNat < v.hs.length := by omega
    rw [List.getElem?_eq_getElem c]
    exact ho.hs _ (List.getElem_mem c)
  have hb1 : ∀ k : Nat, k ≤ 6 → 0 ≤ trS (fun n h => n * h.bw) v.hs ((ts.zip s).take k) ∧ trS (fun n h => n * h.bw) v.hs ((ts.zip s).take k) ≤ 300000000 := fun k hk => trS_bd9 (fun q hq h0 => by
    have a := hmem q hq h0
    exact mul_bd5 a.1 a.2.bw) k hk
  have hb2 : ∀ k : Nat, k ≤ 6 → 0 ≤ trS (fun n h => n * h.st) v.hs ((ts.zip s).take k) ∧ trS (fun n h => n * h.st) v.hs ((ts.zip s).take k) ≤ 300000000 := fun k hk => trS_bd9 (fun q hq h0 => by
    have a := hmem q hq h0
    exact mul_bd5 a.1 a.2.st) k hk
  have HB1 := Lib.hid hb1
  have HB2 := Lib.hid hb2
  have HM := Lib.hid hmem
  have wli : IntKind.i64.wrap (1000 * v.li) = 1000 * v.li := IntWalk.i64_in _ (by omega)
  rw [vcs_def] at k0 B0 hV1 hS1 hT1 ⊢
  clear hV hS0 hT0 hl htl hin ht ho hzl hmem hb1 hb2
  obtain ⟨W1, hW1⟩ : ∃ x, w.alloc (.cells #[.int .i64 v.li, .int .i64 v.un, .int .i64 v.tr, .slice p.HA p.hn p.hc, .int .i64 v.le, .slice p.SA p.sn p.sc, .slice p.LA p.ln p.lc] 26) = x := ⟨_, rfl⟩
  have HW := Lib.hid hW1
  rw [hW1] at k0 B0 hV1 hS1 hT1
  clear hW1
  go_enter Try.func87, Try.ntmps87
  go_upto_region 1 with fail
  rw [HW.out]
  refine AnyG.startC (by kernel_rfl) ?_
  refine AnyG.takeP (i := 0) (v := ?_) rfl (by kernel_rfl) (fun _ _ _ h => h) rfl ?_ ?_
  rotate_left
  · (intro w'; go_simp; try with_reducible rfl)
  try simp only [Act.put, List.getElem_toArray, List.getElem_cons_succ, List.getElem_cons_zero, List.setIfInBounds_toArray, List.set_cons_zero, List.set_cons_succ]
  refine AnyG.takeP (i := 3) (v := ?_) rfl (by kernel_rfl) (fun _ _ _ h => h) rfl ?_ ?_
  rotate_left
  · (intro w'; go_simp; try with_reducible rfl)
  try simp only [Act.put, List.getElem_toArray, List.getElem_cons_succ, List.getElem_cons_zero, List.setIfInBounds_toArray, List.set_cons_zero, List.set_cons_succ]
  refine AnyG.enter (fun w' : World => Below W1.heap.size W1 w') (fun i => i != 7) ?_
  have hS : (fun w' : World => Below W1.heap.size W1 w') (World.drew _) := (Below.refl _ _).drew
  refine AnyG.takeC (i := 1) (v := ?_) rfl (by kernel_rfl) (fun _ _ _ h => h) rfl ?_ hS ?_
  rotate_left
  · (intro w' hSw; (try dsimp only at hSw); obtain ⟨x0, x1, x2, x3, x4, x5, x6, xf, xz⟩ := (k0.call hSw).seven; go_simp; try with_reducible rfl)
  try simp only [Act.put, List.getElem_toArray, List.getElem_cons_succ, List.getElem_cons_zero, List.setIfInBounds_toArray, List.set_cons_zero, List.set_cons_succ]
  refine AnyG.takeC (i := 2) (v := ?_) rfl (by kernel_rfl) (fun _ _ _ h => h) rfl ?_ hS ?_
  rotate_left
  · (intro w' hSw; (try dsimp only at hSw); go_simp; try with_reducible rfl)
  try simp only [Act.put, List.getElem_toArray, List.getElem_cons_succ, List.getElem_cons_zero, List.setIfInBounds_toArray, List.set_cons_zero, List.set_cons_succ]
  refine AnyG.takeC (i := 4) (v := ?_) rfl (by kernel_rfl) (fun _ _ _ h => h) rfl ?_ hS ?_
  rotate_left
  · (intro w' hSw; (try dsimp only at hSw); obtain ⟨x0, x1, x2, x3, x4, x5, x6, xf, xz⟩ := (k0.call hSw).seven; go_simp; try with_reducible rfl)
  try simp only [Act.put, List.getElem_toArray, List.getElem_cons_succ, List.getElem_cons_zero, List.setIfInBounds_toArray, List.set_cons_zero, List.set_cons_succ]
  refine AnyG.takeC (i := 5) (v := ?_) rfl (by kernel_rfl) (fun _ _ _ h => h) rfl ?_ hS ?_
  rotate_left
  · (intro w' hSw; (try dsimp only at hSw); go_simp; try with_reducible rfl)
  try simp only [Act.put, List.getElem_toArray, List.getElem_cons_succ, List.getElem_cons_zero, List.setIfInBounds_toArray, List.set_cons_zero, List.set_cons_succ]
  refine AnyG.one (i := 6) (by kernel_rfl) rfl rfl ?_
  go_simp
  refine Onward.on hS (fun hS2 => ?_)
  clear hS
  have hS := hS2
  clear hS2
  try simp only [Act.put, List.getElem_toArray, List.getElem_cons_succ, List.getElem_cons_zero, List.setIfInBounds_toArray, List.set_cons_zero, List.set_cons_succ]
  refine AnyG.one (i := 7) (by kernel_rfl) rfl rfl ?_
  go_simp
  refine Onward.last rfl ?_
  try simp only [Act.put, List.getElem_toArray, List.getElem_cons_succ, List.getElem_cons_zero, List.setIfInBounds_toArray, List.set_cons_zero, List.set_cons_succ]
  refine AnyG.done (by kernel_rfl) ?_ _
  go_simp
  have hE1 : Below W1.heap.size W1 W1.drew := (Below.refl _ _).drew
  clear hS
  go_wp2_with fail
  go_loopw [8, 9, 10] (fun bv sv i wr => ∃ (k : Nat) (bw st : Int), k ≤ sn ∧ i = .int .i64 k ∧ bv = .int .i64 bw ∧ sv = .int .i64 st ∧ Hid (bw = 1000 * v.li + trS (fun n h => n * h.bw) v.hs ((ts.zip s).take k) ∧ st = 1000 * v.li + trS (fun n h => n * h.st) v.hs ((ts.zip s).take k)) ∧ Below W1.heap.size W1 wr) (fun _ _ i _ => sn - (intOf i).toNat)
  case atStart => exact ⟨0, 1000 * v.li, 1000 * v.li, by omega, rfl, rfl, rfl, Lib.hid ⟨by simp [trS], by simp [trS]⟩, hE1⟩
  case round =>
    clear hE1
    obtain ⟨k, bw, st, hk, rfl, rfl, rfl, HBS, hB⟩ := hrel
    have kr := k0.call hB
    by_cases hkn : k < sn
    · have hks : k < s.length := by rw [HSL.out]; exact hkn
      have hkt : k < ts.length := by rw [HTL.out]; exact hkn
      have hkz : k < (ts.zip s).length := by rw [HZL.out]; exact hkn
      obtain ⟨sad, hSe, _, g0⟩ := inr_at (hS1.call hB) hks
      obtain ⟨tad, hTe, _, t0⟩ := inr_at (hT1.call hB) hkt
      have hz : (ts.zip s)[k] = (ts[k], s[k]) := List.getElem_zip
      have hmz := HM.out _ (List.getElem_mem hkz)
      have hx1 := HIN.out _ (List.getElem_mem hks)
      have st1 := trS_take (fun n h => n * h.bw) v.hs (ts.zip s) hkz
      have st2 := trS_take (fun n h => n * h.st) v.hs (ts.zip s) hkz
      have c1 := HB1.out k (by omega)
      have c2 := HB2.out k (by omega)
      rw [← show bw - 1000 * v.li = trS (fun n h => n * h.bw) v.hs ((ts.zip s).take k) by rw [HBS.out.1]; omega] at c1
      rw [← show st - 1000 * v.li = trS (fun n h => n * h.st) v.hs ((ts.zip s).take k) by rw [HBS.out.2]; omega] at c2
      rw [hz] at hmz st1 st2
      generalize s[k] = x at *
      generalize ts[k] = t at *
      dsimp only at hmz st1 st2
      subst hSe hTe
      have hkw : IntKind.i64.wrap ((k : Int) + 1) = (k : Int) + 1 := IntWalk.i64_in _ (by omega)
      have HS1 := Lib.hid st1
      have HS2 := Lib.hid st2
      clear hz st1 st2 hks hkt hkz
      by_cases hx : 0 ≤ x
      · obtain ⟨h, rfl⟩ : ∃ h : Nat, x = (h : Int) := ⟨x.toNat, by omega⟩
        obtain ⟨ht5, hzo⟩ := hmz hx
        have hhl : h < v.hs.length := by omega
        have hhn : h < p.hn := by rw [← HHL.out]; exact hhl
        obtain ⟨had, hHA, _, q0, q1, q2⟩ := hd_at (hV1.call hB).hs hhl
        have hhd : hd v.hs (h : Int) = v.hs[h] := by unfold hd; simp [List.getElem?_eq_getElem hhl]
        rw [hhd] at hzo
        have HHD := Lib.hid hhd
        generalize v.hs[h] = z at *
        have HHA := Lib.hid hHA
        have m1 := mul_bd5 ht5 hzo.bw
        have m2 := mul_bd5 ht5 hzo.st
        have w1 : IntKind.i64.wrap (t * z.bw) = t * z.bw := IntWalk.i64_in _ (by omega)
        have w2 : IntKind.i64.wrap (t * z.st) = t * z.st := IntWalk.i64_in _ (by omega)
        have w3 : IntKind.i64.wrap (bw + t * z.bw) = bw + t * z.bw := IntWalk.i64_in _ (by omega)
        have w4 : IntKind.i64.wrap (st + t * z.st) = st + t * z.st := IntWalk.i64_in _ (by omega)
        have HX := Lib.hid (show bw + t * z.bw = 1000 * v.li + trS (fun n h => n * h.bw) v.hs ((ts.zip s).take (k + 1)) ∧ st + t * z.st = 1000 * v.li + trS (fun n h => n * h.st) v.hs ((ts.zip s).take (k + 1)) by
          rw [HS1.out, HS2.out, if_pos hx, if_pos hx, HHD.out, HBS.out.1, HBS.out.2]
          omega)
        clear hHA hhd hhl hzo ht5 m1 m2 hmz c1 c2
        obtain ⟨W3, rfl⟩ : ∃ Z, Z = wr := ⟨_, rfl⟩
        go_wp2_with fail
        refine AnyG.startC (by kernel_rfl) ?_
        refine AnyG.takeP (i := 0) (v := ?_) rfl (by kernel_rfl) (fun _ _ _ h => h) rfl ?_ ?_
        rotate_left
        · (intro w'; go_simp; try with_reducible rfl)
        try simp only [Act.put, List.getElem_toArray, List.getElem_cons_succ, List.getElem_cons_zero, List.setIfInBounds_toArray, List.set_cons_zero, List.set_cons_succ]
        refine AnyG.takeP (i := 2) (v := ?_) rfl (by kernel_rfl) (fun _ _ _ h => h) rfl ?_ ?_
        rotate_left
        · (intro w'; go_simp; try with_reducible rfl)
        try simp only [Act.put, List.getElem_toArray, List.getElem_cons_succ, List.getElem_cons_zero, List.setIfInBounds_toArray, List.set_cons_zero, List.set_cons_succ]
        refine AnyG.takeP (i := 3) (v := ?_) rfl (by kernel_rfl) (fun _ _ _ h => h) rfl ?_ ?_
        rotate_left
        · (intro w'; go_simp; try with_reducible rfl)
        try simp only [Act.put, List.getElem_toArray, List.getElem_cons_succ, List.getElem_cons_zero, List.setIfInBounds_toArray, List.set_cons_zero, List.set_cons_succ]
        refine AnyG.takeP (i := 4) (v := ?_) rfl (by kernel_rfl) (fun _ _ _ h => h) rfl ?_ ?_
        rotate_left
        · (intro w'; go_simp; try with_reducible rfl)
        try simp only [Act.put, List.getElem_toArray, List.getElem_cons_succ, List.getElem_cons_zero, List.setIfInBounds_toArray, List.set_cons_zero, List.set_cons_succ]
        refine AnyG.enter (fun w' : World => Below W3.heap.size W3 w') (fun i => i != 9) ?_
        have hS : (fun w' : World => Below W3.heap.size W3 w') (World.drew _) := (Below.refl _ _).drew
        refine AnyG.takeC (i := 1) (v := ?_) rfl (by kernel_rfl) (fun _ _ _ h => h) rfl ?_ hS ?_
        rotate_left
        · (intro w' hSw; (try dsimp only at hSw); obtain ⟨x0, x1, x2, x3, x4, x5, x6, xf, xz⟩ := (kr.call hSw).seven; rw [HHA.out] at x3; go_simp; try with_reducible rfl)
        try simp only [Act.put, List.getElem_toArray, List.getElem_cons_succ, List.getElem_cons_zero, List.setIfInBounds_toArray, List.set_cons_zero, List.set_cons_succ]
        refine AnyG.takeC (i := 5) (v := ?_) rfl (by kernel_rfl) (fun _ _ _ h => h) rfl ?_ hS ?_
        rotate_left
        · (intro w' hSw; (try dsimp only at hSw); have p0 := cellC hSw g0; go_simp; try with_reducible rfl)
        try simp only [Act.put, List.getElem_toArray, List.getElem_cons_succ, List.getElem_cons_zero, List.setIfInBounds_toArray, List.set_cons_zero, List.set_cons_succ]
        refine AnyG.takeC (i := 6) (v := ?_) rfl (by kernel_rfl) (fun _ _ _ h => h) rfl ?_ hS ?_
        rotate_left
        · (intro w' hSw; (try dsimp only at hSw); go_simp; try with_reducible rfl)
        try simp only [Act.put, List.getElem_toArray, List.getElem_cons_succ, List.getElem_cons_zero, List.setIfInBounds_toArray, List.set_cons_zero, List.set_cons_succ]
        refine AnyG.takeC (i := 7) (v := ?_) rfl (by kernel_rfl) (fun _ _ _ h => h) rfl ?_ hS ?_
        rotate_left
        · (intro w' hSw; (try dsimp only at hSw); have p0 := cellC hSw q0; have p1 := cellC hSw q1; have p2 := cellC hSw q2; go_simp; try with_reducible rfl)
        try simp only [Act.put, List.getElem_toArray, List.getElem_cons_succ, List.getElem_cons_zero, List.setIfInBounds_toArray, List.set_cons_zero, List.set_cons_succ]
        refine AnyG.one (i := 8) (by kernel_rfl) rfl rfl ?_
        have hS9 : Below W3.heap.size W3 (W3.alloc (.cells #[.int .i64 0, .int .i64 0, .int .i64 0] 85)).drew := ((Below.refl W3.heap.size W3).alloc (Nat.le_refl _) _).drew
        go_simp
        refine Onward.on hS9 (fun hS2 => ?_)
        clear hS
        have hS := hS2
        clear hS2
        try simp only [Act.put, List.getElem_toArray, List.getElem_cons_succ, List.getElem_cons_zero, List.setIfInBounds_toArray, List.set_cons_zero, List.set_cons_succ]
        refine AnyG.one (i := 9) (by kernel_rfl) rfl rfl ?_
        go_simp
        refine Onward.last rfl ?_
        try simp only [Act.put, List.getElem_toArray, List.getElem_cons_succ, List.getElem_cons_zero, List.setIfInBounds_toArray, List.set_cons_zero, List.set_cons_succ]
        refine AnyG.done (by kernel_rfl) ?_ _
        go_simp
        clear hS hS9
        have kz := (Bx.new W3 85 #[.int .i64 z.rm, .int .i64 z.bw, .int .i64 z.st]).drew
        have hE := ((Below.refl W3.heap.size W3).alloc (Nat.le_refl _) (.cells #[.int .i64 z.rm, .int .i64 z.bw, .int .i64 z.st] 85)).drew
        obtain ⟨W4, hW4⟩ : ∃ x, (W3.alloc (.cells #[.int .i64 z.rm, .int .i64 z.bw, .int .i64 z.st] 85)).drew = x := ⟨_, rfl⟩
        rw [hW4] at kz hE ⊢
        clear hW4
        have t0 := cellC hE t0
        have hB4 := hB.trans (hE.mono hB.size)
        clear g0 q0 q1 q2 kr
        go_wp2_with fail
        refine AnyG.startC (by kernel_rfl) ?_
        refine AnyG.takeP (i := 0) (v := ?_) rfl (by kernel_rfl) (fun _ _ _ h => h) rfl ?_ ?_
        rotate_left
        · (intro w'; go_simp; try with_reducible rfl)
        try simp only [Act.put, List.getElem_toArray, List.getElem_cons_succ, List.getElem_cons_zero, List.setIfInBounds_toArray, List.set_cons_zero, List.set_cons_succ]
        refine AnyG.takeP (i := 1) (v := ?_) rfl (by kernel_rfl) (fun _ _ _ h => h) rfl ?_ ?_
        rotate_left
        · (intro w'; go_simp; try with_reducible rfl)
        try simp only [Act.put, List.getElem_toArray, List.getElem_cons_succ, List.getElem_cons_zero, List.setIfInBounds_toArray, List.set_cons_zero, List.set_cons_succ]
        refine AnyG.takeP (i := 2) (v := ?_) rfl (by kernel_rfl) (fun _ _ _ h => h) rfl ?_ ?_
        rotate_left
        · (intro w'; go_simp; try with_reducible rfl)
        try simp only [Act.put, List.getElem_toArray, List.getElem_cons_succ, List.getElem_cons_zero, List.setIfInBounds_toArray, List.set_cons_zero, List.set_cons_succ]
        refine AnyG.takeP (i := 3) (v := ?_) rfl (by kernel_rfl) (fun _ _ _ h => h) rfl ?_ ?_
        rotate_left
        · (intro w'; go_simp; try with_reducible rfl)
        try simp only [Act.put, List.getElem_toArray, List.getElem_cons_succ, List.getElem_cons_zero, List.setIfInBounds_toArray, List.set_cons_zero, List.set_cons_succ]
        refine AnyG.takeP (i := 5) (v := ?_) rfl (by kernel_rfl) (fun _ _ _ h => h) rfl ?_ ?_
        rotate_left
        · (intro w'; go_simp; try with_reducible rfl)
        try simp only [Act.put, List.getElem_toArray, List.getElem_cons_succ, List.getElem_cons_zero, List.setIfInBounds_toArray, List.set_cons_zero, List.set_cons_succ]
        refine AnyG.takeP (i := 9) (v := ?_) rfl (by kernel_rfl) (fun _ _ _ h => h) rfl ?_ ?_
        rotate_left
        · (intro w'; go_simp; try with_reducible rfl)
        try simp only [Act.put, List.getElem_toArray, List.getElem_cons_succ, List.getElem_cons_zero, List.setIfInBounds_toArray, List.set_cons_zero, List.set_cons_succ]
        refine AnyG.takeP (i := 10) (v := ?_) rfl (by kernel_rfl) (fun _ _ _ h => h) rfl ?_ ?_
        rotate_left
        · (intro w'; go_simp; try with_reducible rfl)
        try simp only [Act.put, List.getElem_toArray, List.getElem_cons_succ, List.getElem_cons_zero, List.setIfInBounds_toArray, List.set_cons_zero, List.set_cons_succ]
        refine AnyG.takeP (i := 11) (v := ?_) rfl (by kernel_rfl) (fun _ _ _ h => h) rfl ?_ ?_
        rotate_left
        · (intro w'; go_simp; try with_reducible rfl)
        try simp only [Act.put, List.getElem_toArray, List.getElem_cons_succ, List.getElem_cons_zero, List.setIfInBounds_toArray, List.set_cons_zero, List.set_cons_succ]
        refine AnyG.takeP (i := 12) (v := ?_) rfl (by kernel_rfl) (fun _ _ _ h => h) rfl ?_ ?_
        rotate_left
        · (intro w'; go_simp; try with_reducible rfl)
        try simp only [Act.put, List.getElem_toArray, List.getElem_cons_succ, List.getElem_cons_zero, List.setIfInBounds_toArray, List.set_cons_zero, List.set_cons_succ]
        refine AnyG.takeP (i := 14) (v := ?_) rfl (by kernel_rfl) (fun _ _ _ h => h) rfl ?_ ?_
        rotate_left
        · (intro w'; go_simp; try with_reducible rfl)
        try simp only [Act.put, List.getElem_toArray, List.getElem_cons_succ, List.getElem_cons_zero, List.setIfInBounds_toArray, List.set_cons_zero, List.set_cons_succ]
        refine AnyG.enter (fun w' : World => Below W4.heap.size W4 w') (fun i => i != 19) ?_
        have hS : (fun w' : World => Below W4.heap.size W4 w') (World.drew _) := (Below.refl _ _).drew
        refine AnyG.takeC (i := 4) (v := ?_) rfl (by kernel_rfl) (fun _ _ _ h => h) rfl ?_ hS ?_
        rotate_left
        · (intro w' hSw; (try dsimp only at hSw); have p0 := cellC hSw t0; go_simp; try with_reducible rfl)
        try simp only [Act.put, List.getElem_toArray, List.getElem_cons_succ, List.getElem_cons_zero, List.setIfInBounds_toArray, List.set_cons_zero, List.set_cons_succ]
        refine AnyG.takeC (i := 6) (v := ?_) rfl (by kernel_rfl) (fun _ _ _ h => h) rfl ?_ hS ?_
        rotate_left
        · (intro w' hSw; (try dsimp only at hSw); obtain ⟨x0, x1, x2, xf, xz⟩ := (kz.call hSw).three'; go_simp; try with_reducible rfl)
        try simp only [Act.put, List.getElem_toArray, List.getElem_cons_succ, List.getElem_cons_zero, List.setIfInBounds_toArray, List.set_cons_zero, List.set_cons_succ]
        refine AnyG.takeC (i := 7) (v := ?_) rfl (by kernel_rfl) (fun _ _ _ h => h) rfl ?_ hS ?_
        rotate_left
        · (intro w' hSw; (try dsimp only at hSw); go_simp; try with_reducible rfl)
        try simp only [Act.put, List.getElem_toArray, List.getElem_cons_succ, List.getElem_cons_zero, List.setIfInBounds_toArray, List.set_cons_zero, List.set_cons_succ]
        refine AnyG.takeC (i := 8) (v := ?_) rfl (by kernel_rfl) (fun _ _ _ h => h) rfl ?_ hS ?_
        rotate_left
        · (intro w' hSw; (try dsimp only at hSw); go_simp; try with_reducible rfl)
        try simp only [Act.put, List.getElem_toArray, List.getElem_cons_succ, List.getElem_cons_zero, List.setIfInBounds_toArray, List.set_cons_zero, List.set_cons_succ]
        refine AnyG.takeC (i := 13) (v := ?_) rfl (by kernel_rfl) (fun _ _ _ h => h) rfl ?_ hS ?_
        rotate_left
        · (intro w' hSw; (try dsimp only at hSw); have p0 := cellC hSw t0; go_simp; try with_reducible rfl)
        try simp only [Act.put, List.getElem_toArray, List.getElem_cons_succ, List.getElem_cons_zero, List.setIfInBounds_toArray, List.set_cons_zero, List.set_cons_succ]
        refine AnyG.takeC (i := 15) (v := ?_) rfl (by kernel_rfl) (fun _ _ _ h => h) rfl ?_ hS ?_
        rotate_left
        · (intro w' hSw; (try dsimp only at hSw); obtain ⟨x0, x1, x2, xf, xz⟩ := (kz.call hSw).three'; go_simp; try with_reducible rfl)
        try simp only [Act.put, List.getElem_toArray, List.getElem_cons_succ, List.getElem_cons_zero, List.setIfInBounds_toArray, List.set_cons_zero, List.set_cons_succ]
        refine AnyG.takeC (i := 16) (v := ?_) rfl (by kernel_rfl) (fun _ _ _ h => h) rfl ?_ hS ?_
        rotate_left
        · (intro w' hSw; (try dsimp only at hSw); go_simp; try with_reducible rfl)
        try simp only [Act.put, List.getElem_toArray, List.getElem_cons_succ, List.getElem_cons_zero, List.setIfInBounds_toArray, List.set_cons_zero, List.set_cons_succ]
        refine AnyG.takeC (i := 17) (v := ?_) rfl (by kernel_rfl) (fun _ _ _ h => h) rfl ?_ hS ?_
        rotate_left
        · (intro w' hSw; (try dsimp only at hSw); go_simp; try with_reducible rfl)
        try simp only [Act.put, List.getElem_toArray, List.getElem_cons_succ, List.getElem_cons_zero, List.setIfInBounds_toArray, List.set_cons_zero, List.set_cons_succ]
        refine AnyG.one (i := 18) (by kernel_rfl) rfl rfl ?_
        go_simp
        refine Onward.on hS (fun hS2 => ?_)
        clear hS
        have hS := hS2
        clear hS2
        try simp only [Act.put, List.getElem_toArray, List.getElem_cons_succ, List.getElem_cons_zero, List.setIfInBounds_toArray, List.set_cons_zero, List.set_cons_succ]
        refine AnyG.one (i := 19) (by kernel_rfl) rfl rfl ?_
        go_simp
        refine Onward.last rfl ?_
        try simp only [Act.put, List.getElem_toArray, List.getElem_cons_succ, List.getElem_cons_zero, List.setIfInBounds_toArray, List.set_cons_zero, List.set_cons_succ]
        refine AnyG.done (by kernel_rfl) ?_ _
        go_simp
        clear hS
        go_wp2_with fail
        go_roundw
        case rel => exact ⟨k + 1, bw + t * z.bw, st + t * z.st, by omega, by go_num, rfl, rfl, HX, hB4.drew⟩
        case measure => simp [intOf]; omega
      · have HX := Lib.hid (show bw = 1000 * v.li + trS (fun n h => n * h.bw) v.hs ((ts.zip s).take (k + 1)) ∧ st = 1000 * v.li + trS (fun n h => n * h.st) v.hs ((ts.zip s).take (k + 1)) by
          rw [HS1.out, HS2.out, if_neg hx, if_neg hx, HBS.out.1, HBS.out.2]
          omega)
        clear hmz c1 c2
        go_wp2_with fail
        go_roundw
        case rel => exact ⟨k + 1, bw, st, by omega, by go_num, rfl, rfl, HX, hB⟩
        case measure => simp [intOf]; omega
    · obtain rfl : k = sn := by omega
      have e1 := HBS.out.1
      have e2 := HBS.out.2
      rw [List.take_of_length_le (by rw [HZL.out]; omega)] at e1 e2
      have HE1 := Lib.hid e1
      have HE2 := Lib.hid e2
      clear e1 e2
      have BR := B0.trans (hB.mono B0.size)
      go_wp2_with fail
      exact bodyPost_ret (v := .tuple #[.int .i64 bw, .int .i64 st]) (by simp [results, Try.results87, go_sem]) rfl ⟨by rw [← HE1.out, ← HE2.out], BR⟩
end Go.Proofs.Ytfcpjkofbejleaa
