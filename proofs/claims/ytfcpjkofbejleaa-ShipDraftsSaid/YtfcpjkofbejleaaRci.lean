/- The reference: level 59. -/
import Derived.Test.YtfcpjkofbejleaaRchM
set_option linter.unusedSimpArgs false
set_option linter.unusedVariables false
namespace Go.Proofs.Ytfcpjkofbejleaa
open Go Go.RowKit
/-- By how much the first lots let the bow lie deeper. -/
def tiF (hs : List Hd) (ls : List Cg) (s : List Int) (k : Nat) : Int × Int :=
  ((((ls.zip s).take k).map fun p => if 0 ≤ p.2 then (tms p.1.t0 p.1.t1 ((hd hs p.2).bw - (hd hs p.2).st)).1 else 0).sum, (((ls.zip s).take k).map fun p => if 0 ≤ p.2 then (tms p.1.t0 p.1.t1 ((hd hs p.2).bw - (hd hs p.2).st)).2 else 0).sum)
theorem tiF_step {hs : List Hd} {ls : List Cg} {s : List Int} {k : Nat} {c : Cg} {x : Int} (hc : ls[k]? = some c) (hx : s[k]? = some x) : (tiF hs ls s (k + 1)).1 = (tiF hs ls s k).1 + (if 0 ≤ x then (tms c.t0 c.t1 ((hd hs x).bw - (hd hs x).st)).1 else 0) ∧ (tiF hs ls s (k + 1)).2 = (tiF hs ls s k).2 + (if 0 ≤ x then (tms c.t0 c.t1 ((hd hs x).bw - (hd hs x).st)).2 else 0) := by
  have hz : (ls.zip s)[k]? = some (c, x) := by rw [List.getElem?_zip_eq_some]; exact ⟨hc, hx⟩
  have hk := (List.getElem?_eq_some_iff.1 hz).1
  unfold tiF
  dsimp only
  rw [List.take_succ_eq_append_getElem hk, (List.getElem?_eq_some_iff.1 hz).2, List.map_append, List.map_append, List.sum_append, List.sum_append]
  simp
theorem tiF_all {hs : List Hd} {ls : List Cg} {s : List Int} {k : Nat} (h0 : ∀ y ∈ s, -1 ≤ y) (hk : (ls.zip s).length ≤ k) : tiF hs ls s k = tiltP hs (abd ls s) := by
  unfold tiF tiltP
  rw [List.take_of_length_le hk]
  unfold abd
  have hz : ∀ q ∈ ls.zip s, -1 ≤ q.2 := fun q hq => h0 _ (List.of_mem_zip (a := q.1) (b := q.2) (by simpa using hq)).2
  generalize ls.zip s = Z at *
  have key : ∀ (f : Cg × Int → Int) (Z : List (Cg × Int)), (∀ q ∈ Z, -1 ≤ q.2) → (Z.map fun p => if 0 ≤ p.2 then f p else 0).sum = ((Z.filter fun p => decide (p.2 ≠ -1)).map f).sum := fun f Z => by
    induction Z with
    | nil => intro _; rfl
    | cons q Z ih =>
      intro h
      have h1 := ih fun y hy => h y (by simp [hy])
      have h2 := h q (by simp)
      by_cases e : q.2 = -1
      · rw [List.filter_cons_of_neg (by simpa using e)]
        simp only [List.map_cons, List.sum_cons]
        rw [if_neg (by omega), h1]
        omega
      · rw [List.filter_cons_of_pos (by simpa using e)]
        simp only [List.map_cons, List.sum_cons]
        rw [if_pos (by omega), h1]
  exact Prod.ext (key (fun p => (tms p.1.t0 p.1.t1 ((hd hs p.2).bw - (hd hs p.2).st)).1) Z hz) (key (fun p => (tms p.1.t0 p.1.t1 ((hd hs p.2).bw - (hd hs p.2).st)).2) Z hz)
theorem tms_min {a b n : Int} (h : a ≤ b) : (if n * b < n * a then n * b else n * a) = (tms a b n).1 ∧ (if n * a < n * b then n * b else n * a) = (tms a b n).2 := by
  unfold tms
  rw [Int.mul_comm n b, Int.mul_comm n a]
  by_cases hn : n < 0
  · rw [if_pos hn]
    have := Int.mul_le_mul_of_nonpos_right h (Int.le_of_lt hn)
    constructor <;> split <;> dsimp only <;> omega
  · rw [if_neg hn]
    have := Int.mul_le_mul_of_nonneg_right h (by omega : 0 ≤ n)
    constructor <;> split <;> dsimp only <;> omega
theorem mul_bd9 {a n : Int} (h1 : 0 ≤ a ∧ a ≤ 5000) (h2 : -10000 ≤ n ∧ n ≤ 10000) : -50000000 ≤ n * a ∧ n * a ≤ 50000000 := by
  have x := Int.mul_le_mul_of_nonneg_right h2.2 h1.1
  have y := Int.mul_le_mul_of_nonneg_right h2.1 h1.1
  omega
set_option maxRecDepth 100000 in
set_option maxHeartbeats 3200000 in
theorem refLevel59_any (v : Vg) (p : Vp) (A : Option Addr) (sn sc : Nat) (s : List Int) (w : World) (hst : StOk v s) (hV : VoyAt w w.heap.size v p) (hS0 : Sl w w.heap.size 1 A (inr s)) (hl : s.length = sn) :
    Calls Try.prog 59 #[.agg (vcs v p), .slice A sn sc] w fun e w' => e = .returned (.tuple #[.bool (lvlOk v (tiltP v.hs (abd v.ls s))), .agg #[.int .i64 (tiltP v.hs (abd v.ls s)).1, .int .i64 (tiltP v.hs (abd v.ls s)).2]]) ∧ Below w.heap.size w w' := by
  have hne : sn = p.ln := by rw [← hl, hst.len, hV.ll]
  subst hne
  have HST := Lib.hid hst
  have HSL := Lib.hid hl
  have HLL := Lib.hid hV.ll
  have HHL := Lib.hid hV.hl
  have hl6 : p.ln ≤ 6 := by rw [← hV.ll]; exact hst.ok.l6
  have htr := hst.ok.tr
  rw [vcs_def]
  have Bw := ((Below.refl w.heap.size w).alloc (Nat.le_refl _) (.cells #[.int .i64 v.li, .int .i64 v.un, .int .i64 v.tr, .slice p.HA p.hn p.hc, .int .i64 v.le, .slice p.SA p.sn p.sc, .slice p.LA p.ln p.lc] 26)).alloc (by simp) (.cells #[.int .i64 0, .int .i64 0] 41)
  have k1 := (Bx.new w 26 #[.int .i64 v.li, .int .i64 v.un, .int .i64 v.tr, .slice p.HA p.hn p.hc, .int .i64 v.le, .slice p.SA p.sn p.sc, .slice p.LA p.ln p.lc]).alloc (.cells #[.int .i64 0, .int .i64 0] 41)
  have c4 := Bx.at (w.alloc (.cells #[.int .i64 v.li, .int .i64 v.un, .int .i64 v.tr, .slice p.HA p.hn p.hc, .int .i64 v.le, .slice p.SA p.sn p.sc, .slice p.LA p.ln p.lc] 26)) 41 #[.int .i64 0, .int .i64 0] (n := w.heap.size + 1) (by simp)
  have hV1 := hV.call Bw
  have hS1 := hS0.call Bw
  have hsz : ((w.alloc (.cells #[.int .i64 v.li, .int .i64 v.un, .int .i64 v.tr, .slice p.HA p.hn p.hc, .int .i64 v.le, .slice p.SA p.sn p.sc, .slice p.LA p.ln p.lc] 26)).alloc (.cells #[.int .i64 0, .int .i64 0] 41)).heap.size = w.heap.size + 1 + 1 := by simp
  clear hst hl hV hS0
  obtain ⟨W1, hW1⟩ : ∃ x, (w.alloc (.cells #[.int .i64 v.li, .int .i64 v.un, .int .i64 v.tr, .slice p.HA p.hn p.hc, .int .i64 v.le, .slice p.SA p.sn p.sc, .slice p.LA p.ln p.lc] 26)).alloc (.cells #[.int .i64 0, .int .i64 0] 41) = x := ⟨_, rfl⟩
  have HW := Lib.hid hW1
  rw [hW1] at k1 Bw hV1 hS1 c4 hsz
  have HSZ := Lib.hid hsz
  have kx := Bx.new W1 41 #[.int .i64 0, .int .i64 0]
  have Bx1 := (Below.refl W1.heap.size W1).alloc (Nat.le_refl _) (.cells #[.int .i64 0, .int .i64 0] 41)
  clear hW1 hsz
  go_enter Try.func59, Try.ntmps59
  go_upto_region 1 with fail
  rw [HW.out]
  go_upto_region 2 with fail
  obtain ⟨b6, hb6⟩ : ∃ x, W1.heap.size = x := ⟨_, rfl⟩
  have hb6W : W1.heap.size ≤ b6 := by omega
  have hb6w : w.heap.size + 1 < b6 := by rw [← hb6, HSZ.out]; omega
  obtain ⟨W2, hW2⟩ : ∃ x, W1.alloc (.cells #[.int .i64 0, .int .i64 0] 41) = x := ⟨_, rfl⟩
  rw [hW2] at kx Bx1
  try rw [hW2]
  rw [hb6] at kx
  try rw [hb6]
  clear hb6 hW2
  go_wp2_with fail
  go_loopw [7] (fun i wr => ∃ (k : Nat) (x0 x1 : Int), k ≤ p.ln ∧ i = .int .i64 k ∧ Hid ((x0, x1) = tiF v.hs v.ls s k) ∧ -50000000 * k ≤ x0 ∧ x0 ≤ 50000000 * k ∧ -50000000 * k ≤ x1 ∧ x1 ≤ 50000000 * k ∧ Below W1.heap.size W1 wr ∧ Bx wr b6 41 #[.int .i64 x0, .int .i64 x1]) (fun i _ => p.ln - (intOf i).toNat)
  case atStart => exact ⟨0, 0, 0, by omega, rfl, Lib.hid (by simp [tiF]), by omega, by omega, by omega, by omega, Bx1, kx⟩
  case round =>
    clear kx Bx1
    obtain ⟨k, x0, x1, hk, rfl, HX, hx0, hx0', hx1, hx1', hB, kx⟩ := hrel
    have kr := k1.call hB
    by_cases hkn : k < p.ln
    · have hks : k < s.length := by rw [HSL.out]; exact hkn
      have hkl : k < v.ls.length := by rw [HLL.out]; exact hkn
      obtain ⟨sad, hSe, _, g0⟩ := inr_at (hS1.call hB) hks
      obtain ⟨lad, hLA, _, t0, t1, _⟩ := cg_at (hV1.call hB).ls hkl
      have stp := tiF_step (hs := v.hs) (List.getElem?_eq_getElem hkl) (List.getElem?_eq_getElem hks)
      have hco := HST.out.ok.ls _ (List.getElem_mem hkl)
      have hxi := HST.out.inh _ (List.getElem_mem hks)
      generalize s[k] = x at *
      generalize v.ls[k] = c at *
      subst hSe
      have HLA := Lib.hid hLA
      have HSTP := Lib.hid stp
      have hc0 := hco.t0
      have hc1 := hco.t01
      have hc2 := hco.t1
      have hkw : IntKind.i64.wrap ((k : Int) + 1) = (k : Int) + 1 := IntWalk.i64_in _ (by omega)
      clear stp hco hLA hks hkl
      by_cases hx : x < 0
      · have HX2 := Lib.hid (show (x0, x1) = tiF v.hs v.ls s (k + 1) by
          refine Prod.ext ?_ ?_
          · rw [HSTP.out.1, if_neg (by omega), ← HX.out]; simp
          · rw [HSTP.out.2, if_neg (by omega), ← HX.out]; simp)
        go_wp2_with fail
        go_roundw
        case rel => exact ⟨k + 1, x0, x1, by omega, by go_num, HX2, by omega, by omega, by omega, by omega, hB, kx⟩
        case measure => simp [intOf]; omega
      · obtain ⟨h, rfl⟩ : ∃ h : Nat, x = (h : Int) := ⟨x.toNat, by omega⟩
        have hhl : h < v.hs.length := by omega
        have hhn : h < p.hn := by rw [← HHL.out]; exact hhl
        obtain ⟨had, hHA, _, q0, q1, q2⟩ := hd_at (hV1.call hB).hs hhl
        have hhd : hd v.hs (h : Int) = v.hs[h] := by unfold hd; simp [List.getElem?_eq_getElem hhl]
        have hzo := HST.out.ok.hs _ (List.getElem_mem hhl)
        have HHD := Lib.hid hhd
        generalize v.hs[h] = z at *
        have HHA := Lib.hid hHA
        have z1 := hzo.bw
        have z2 := hzo.st
        have m1 := mul_bd9 (a := c.t0) (n := z.bw - z.st) (by omega) (by omega)
        have m2 := mul_bd9 (a := c.t1) (n := z.bw - z.st) (by omega) (by omega)
        have tm := tms_min (a := c.t0) (b := c.t1) (n := z.bw - z.st) hc1
        obtain ⟨nn, hnn⟩ : ∃ y, z.bw - z.st = y := ⟨_, rfl⟩
        have hnw : IntKind.i64.wrap (z.bw - z.st) = nn := by rw [IntWalk.i64_in _ (by omega)]; exact hnn
        rw [hnn] at m1 m2 tm
        obtain ⟨pa, hpa⟩ : ∃ y, nn * c.t0 = y := ⟨_, rfl⟩
        obtain ⟨pb, hpb⟩ : ∃ y, nn * c.t1 = y := ⟨_, rfl⟩
        rw [hpa] at m1 tm
        rw [hpb] at m2 tm
        have w1 : IntKind.i64.wrap (nn * c.t0) = pa := by rw [hpa]; exact IntWalk.i64_in _ (by omega)
        have w2 : IntKind.i64.wrap (nn * c.t1) = pb := by rw [hpb]; exact IntWalk.i64_in _ (by omega)
        obtain ⟨lo, hlo⟩ : ∃ y, (if pb < pa then pb else pa) = y := ⟨_, rfl⟩
        obtain ⟨hi, hhi⟩ : ∃ y, (if pa < pb then pb else pa) = y := ⟨_, rfl⟩
        rw [hlo, hhi] at tm
        have lo1 : -50000000 ≤ lo ∧ lo ≤ 50000000 := by rw [← hlo]; split <;> omega
        have hi1 : -50000000 ≤ hi ∧ hi ≤ 50000000 := by rw [← hhi]; split <;> omega
        have w3 : IntKind.i64.wrap (x0 + lo) = x0 + lo := IntWalk.i64_in _ (by omega)
        have w4 : IntKind.i64.wrap (x1 + hi) = x1 + hi := IntWalk.i64_in _ (by omega)
        have HX2 := Lib.hid (show (x0 + lo, x1 + hi) = tiF v.hs v.ls s (k + 1) by
          have e := HX.out
          have e1 : x0 = (tiF v.hs v.ls s k).1 := by rw [← e]
          have e2 : x1 = (tiF v.hs v.ls s k).2 := by rw [← e]
          refine Prod.ext ?_ ?_
          · rw [HSTP.out.1, if_pos (by omega), HHD.out, hnn, ← tm.1, ← e1]
          · rw [HSTP.out.2, if_pos (by omega), HHD.out, hnn, ← tm.2, ← e2])
        have HNN := Lib.hid hnn
        clear hHA hhd hhl hzo hnn hpa hpb tm m1 m2
        obtain ⟨W3, rfl⟩ : ∃ Z, Z = wr := ⟨_, rfl⟩
        go_wp2_with fail
        refine AnyG.startC (by kernel_rfl) ?_
        refine AnyG.takeP (i := 0) (v := ?_) rfl (by kernel_rfl) (fun _ _ _ h => h) rfl ?_ ?_
        rotate_left
        · (intro w'; go_simp; try with_reducible rfl)
        try simp only [Act.put, List.getElem_toArray, List.getElem_cons_succ, List.getElem_cons_zero, List.setIfInBounds_toArray, List.set_cons_zero, List.set_cons_succ]
        refine AnyG.takeP (i := 2) (v := ?_) rfl (by kernel_rfl) (fun _ _ _ h => h) rfl ?_ ?_
        rotate_left
        · (intro w'; go_simp; try with_reducible rfl)
        try simp only [Act.put, List.getElem_toArray, List.getElem_cons_succ, List.getElem_cons_zero, List.setIfInBounds_toArray, List.set_cons_zero, List.set_cons_succ]
        refine AnyG.takeP (i := 3) (v := ?_) rfl (by kernel_rfl) (fun _ _ _ h => h) rfl ?_ ?_
        rotate_left
        · (intro w'; go_simp; try with_reducible rfl)
        try simp only [Act.put, List.getElem_toArray, List.getElem_cons_succ, List.getElem_cons_zero, List.setIfInBounds_toArray, List.set_cons_zero, List.set_cons_succ]
        refine AnyG.takeP (i := 4) (v := ?_) rfl (by kernel_rfl) (fun _ _ _ h => h) rfl ?_ ?_
        rotate_left
        · (intro w'; go_simp; try with_reducible rfl)
        try simp only [Act.put, List.getElem_toArray, List.getElem_cons_succ, List.getElem_cons_zero, List.setIfInBounds_toArray, List.set_cons_zero, List.set_cons_succ]
        refine AnyG.takeP (i := 9) (v := ?_) rfl (by kernel_rfl) (fun _ _ _ h => h) rfl ?_ ?_
        rotate_left
        · (intro w'; go_simp; try with_reducible rfl)
        try simp only [Act.put, List.getElem_toArray, List.getElem_cons_succ, List.getElem_cons_zero, List.setIfInBounds_toArray, List.set_cons_zero, List.set_cons_succ]
        refine AnyG.takeP (i := 11) (v := ?_) rfl (by kernel_rfl) (fun _ _ _ h => h) rfl ?_ ?_
        rotate_left
        · (intro w'; go_simp; try with_reducible rfl)
        try simp only [Act.put, List.getElem_toArray, List.getElem_cons_succ, List.getElem_cons_zero, List.setIfInBounds_toArray, List.set_cons_zero, List.set_cons_succ]
        refine AnyG.takeP (i := 12) (v := ?_) rfl (by kernel_rfl) (fun _ _ _ h => h) rfl ?_ ?_
        rotate_left
        · (intro w'; go_simp; try with_reducible rfl)
        try simp only [Act.put, List.getElem_toArray, List.getElem_cons_succ, List.getElem_cons_zero, List.setIfInBounds_toArray, List.set_cons_zero, List.set_cons_succ]
        refine AnyG.takeP (i := 13) (v := ?_) rfl (by kernel_rfl) (fun _ _ _ h => h) rfl ?_ ?_
        rotate_left
        · (intro w'; go_simp; try with_reducible rfl)
        try simp only [Act.put, List.getElem_toArray, List.getElem_cons_succ, List.getElem_cons_zero, List.setIfInBounds_toArray, List.set_cons_zero, List.set_cons_succ]
        refine AnyG.enter (fun w' : World => Below W3.heap.size W3 w') (fun i => i != 19) ?_
        have hS : (fun w' : World => Below W3.heap.size W3 w') (World.drew _) := (Below.refl _ _).drew
        refine AnyG.takeC (i := 1) (v := ?_) rfl (by kernel_rfl) (fun _ _ _ h => h) rfl ?_ hS ?_
        rotate_left
        · (intro w' hSw; (try dsimp only at hSw); obtain ⟨y0, y1, y2, y3, y4, y5, y6, yf, yz⟩ := (kr.call hSw).seven; rw [HHA.out] at y3; go_simp; try with_reducible rfl)
        try simp only [Act.put, List.getElem_toArray, List.getElem_cons_succ, List.getElem_cons_zero, List.setIfInBounds_toArray, List.set_cons_zero, List.set_cons_succ]
        refine AnyG.takeC (i := 5) (v := ?_) rfl (by kernel_rfl) (fun _ _ _ h => h) rfl ?_ hS ?_
        rotate_left
        · (intro w' hSw; (try dsimp only at hSw); have p0 := cellC hSw g0; go_simp; try with_reducible rfl)
        try simp only [Act.put, List.getElem_toArray, List.getElem_cons_succ, List.getElem_cons_zero, List.setIfInBounds_toArray, List.set_cons_zero, List.set_cons_succ]
        refine AnyG.takeC (i := 6) (v := ?_) rfl (by kernel_rfl) (fun _ _ _ h => h) rfl ?_ hS ?_
        rotate_left
        · (intro w' hSw; (try dsimp only at hSw); go_simp; try with_reducible rfl)
        try simp only [Act.put, List.getElem_toArray, List.getElem_cons_succ, List.getElem_cons_zero, List.setIfInBounds_toArray, List.set_cons_zero, List.set_cons_succ]
        refine AnyG.takeC (i := 7) (v := ?_) rfl (by kernel_rfl) (fun _ _ _ h => h) rfl ?_ hS ?_
        rotate_left
        · (intro w' hSw; (try dsimp only at hSw); go_simp; try with_reducible rfl)
        try simp only [Act.put, List.getElem_toArray, List.getElem_cons_succ, List.getElem_cons_zero, List.setIfInBounds_toArray, List.set_cons_zero, List.set_cons_succ]
        refine AnyG.takeC (i := 8) (v := ?_) rfl (by kernel_rfl) (fun _ _ _ h => h) rfl ?_ hS ?_
        rotate_left
        · (intro w' hSw; (try dsimp only at hSw); have p1 := cellC hSw q1; go_simp; try with_reducible rfl)
        try simp only [Act.put, List.getElem_toArray, List.getElem_cons_succ, List.getElem_cons_zero, List.setIfInBounds_toArray, List.set_cons_zero, List.set_cons_succ]
        refine AnyG.takeC (i := 10) (v := ?_) rfl (by kernel_rfl) (fun _ _ _ h => h) rfl ?_ hS ?_
        rotate_left
        · (intro w' hSw; (try dsimp only at hSw); obtain ⟨y0, y1, y2, y3, y4, y5, y6, yf, yz⟩ := (kr.call hSw).seven; rw [HHA.out] at y3; go_simp; try with_reducible rfl)
        try simp only [Act.put, List.getElem_toArray, List.getElem_cons_succ, List.getElem_cons_zero, List.setIfInBounds_toArray, List.set_cons_zero, List.set_cons_succ]
        refine AnyG.takeC (i := 14) (v := ?_) rfl (by kernel_rfl) (fun _ _ _ h => h) rfl ?_ hS ?_
        rotate_left
        · (intro w' hSw; (try dsimp only at hSw); have p0 := cellC hSw g0; go_simp; try with_reducible rfl)
        try simp only [Act.put, List.getElem_toArray, List.getElem_cons_succ, List.getElem_cons_zero, List.setIfInBounds_toArray, List.set_cons_zero, List.set_cons_succ]
        refine AnyG.takeC (i := 15) (v := ?_) rfl (by kernel_rfl) (fun _ _ _ h => h) rfl ?_ hS ?_
        rotate_left
        · (intro w' hSw; (try dsimp only at hSw); go_simp; try with_reducible rfl)
        try simp only [Act.put, List.getElem_toArray, List.getElem_cons_succ, List.getElem_cons_zero, List.setIfInBounds_toArray, List.set_cons_zero, List.set_cons_succ]
        refine AnyG.takeC (i := 16) (v := ?_) rfl (by kernel_rfl) (fun _ _ _ h => h) rfl ?_ hS ?_
        rotate_left
        · (intro w' hSw; (try dsimp only at hSw); go_simp; try with_reducible rfl)
        try simp only [Act.put, List.getElem_toArray, List.getElem_cons_succ, List.getElem_cons_zero, List.setIfInBounds_toArray, List.set_cons_zero, List.set_cons_succ]
        refine AnyG.takeC (i := 17) (v := ?_) rfl (by kernel_rfl) (fun _ _ _ h => h) rfl ?_ hS ?_
        rotate_left
        · (intro w' hSw; (try dsimp only at hSw); have p2 := cellC hSw q2; go_simp; try with_reducible rfl)
        try simp only [Act.put, List.getElem_toArray, List.getElem_cons_succ, List.getElem_cons_zero, List.setIfInBounds_toArray, List.set_cons_zero, List.set_cons_succ]
        refine AnyG.takeC (i := 18) (v := ?_) rfl (by kernel_rfl) (fun _ _ _ h => h) rfl ?_ hS ?_
        rotate_left
        · (intro w' hSw; (try dsimp only at hSw); go_simp; try with_reducible rfl)
        try simp only [Act.put, List.getElem_toArray, List.getElem_cons_succ, List.getElem_cons_zero, List.setIfInBounds_toArray, List.set_cons_zero, List.set_cons_succ]
        refine AnyG.one (i := 19) (by kernel_rfl) rfl rfl ?_
        go_simp
        refine Onward.last rfl ?_
        try simp only [Act.put, List.getElem_toArray, List.getElem_cons_succ, List.getElem_cons_zero, List.setIfInBounds_toArray, List.set_cons_zero, List.set_cons_succ]
        refine AnyG.done (by kernel_rfl) ?_ _
        go_simp
        have hE3 : Below W3.heap.size W3 W3.drew := (Below.refl _ _).drew
        clear hS
        have t0' := cellC hE3 t0
        have t1' := cellC hE3 t1
        have k4 := kr.call hE3
        have kx4 := kx.call hE3
        have hB4 := hB.trans (hE3.mono hB.size)
        obtain ⟨W4, hW4⟩ : ∃ x, W3.drew = x := ⟨_, rfl⟩
        rw [hW4] at k4 kx4 hB4 t0' t1' ⊢
        clear hW4 t0 t1 g0 q0 q1 q2 kr kx hE3
        have t0 := t0'
        have t1 := t1'
        clear t0' t1'
        go_wp2_with fail
        refine AnyG.startC (by kernel_rfl) ?_
        refine AnyG.takeP (i := 0) (v := ?_) rfl (by kernel_rfl) (fun _ _ _ h => h) rfl ?_ ?_
        rotate_left
        · (intro w'; go_simp; try with_reducible rfl)
        try simp only [Act.put, List.getElem_toArray, List.getElem_cons_succ, List.getElem_cons_zero, List.setIfInBounds_toArray, List.set_cons_zero, List.set_cons_succ]
        refine AnyG.takeP (i := 1) (v := ?_) rfl (by kernel_rfl) (fun _ _ _ h => h) rfl ?_ ?_
        rotate_left
        · (intro w'; go_simp; try with_reducible rfl)
        try simp only [Act.put, List.getElem_toArray, List.getElem_cons_succ, List.getElem_cons_zero, List.setIfInBounds_toArray, List.set_cons_zero, List.set_cons_succ]
        refine AnyG.takeP (i := 3) (v := ?_) rfl (by kernel_rfl) (fun _ _ _ h => h) rfl ?_ ?_
        rotate_left
        · (intro w'; go_simp; try with_reducible rfl)
        try simp only [Act.put, List.getElem_toArray, List.getElem_cons_succ, List.getElem_cons_zero, List.setIfInBounds_toArray, List.set_cons_zero, List.set_cons_succ]
        refine AnyG.takeP (i := 9) (v := ?_) rfl (by kernel_rfl) (fun _ _ _ h => h) rfl ?_ ?_
        rotate_left
        · (intro w'; go_simp; try with_reducible rfl)
        try simp only [Act.put, List.getElem_toArray, List.getElem_cons_succ, List.getElem_cons_zero, List.setIfInBounds_toArray, List.set_cons_zero, List.set_cons_succ]
        refine AnyG.takeP (i := 10) (v := ?_) rfl (by kernel_rfl) (fun _ _ _ h => h) rfl ?_ ?_
        rotate_left
        · (intro w'; go_simp; try with_reducible rfl)
        try simp only [Act.put, List.getElem_toArray, List.getElem_cons_succ, List.getElem_cons_zero, List.setIfInBounds_toArray, List.set_cons_zero, List.set_cons_succ]
        refine AnyG.takeP (i := 12) (v := ?_) rfl (by kernel_rfl) (fun _ _ _ h => h) rfl ?_ ?_
        rotate_left
        · (intro w'; go_simp; try with_reducible rfl)
        try simp only [Act.put, List.getElem_toArray, List.getElem_cons_succ, List.getElem_cons_zero, List.setIfInBounds_toArray, List.set_cons_zero, List.set_cons_succ]
        refine AnyG.enter (fun w' : World => Below W4.heap.size W4 w') (fun i => i != 19) ?_
        have hS : (fun w' : World => Below W4.heap.size W4 w') (World.drew _) := (Below.refl _ _).drew
        refine AnyG.takeC (i := 2) (v := ?_) rfl (by kernel_rfl) (fun _ _ _ h => h) rfl ?_ hS ?_
        rotate_left
        · (intro w' hSw; (try dsimp only at hSw); obtain ⟨y0, y1, y2, y3, y4, y5, y6, yf, yz⟩ := (k4.call hSw).seven; rw [HLA.out] at y6; go_simp; try with_reducible rfl)
        try simp only [Act.put, List.getElem_toArray, List.getElem_cons_succ, List.getElem_cons_zero, List.setIfInBounds_toArray, List.set_cons_zero, List.set_cons_succ]
        refine AnyG.takeC (i := 4) (v := ?_) rfl (by kernel_rfl) (fun _ _ _ h => h) rfl ?_ hS ?_
        rotate_left
        · (intro w' hSw; (try dsimp only at hSw); go_simp; try with_reducible rfl)
        try simp only [Act.put, List.getElem_toArray, List.getElem_cons_succ, List.getElem_cons_zero, List.setIfInBounds_toArray, List.set_cons_zero, List.set_cons_succ]
        refine AnyG.takeC (i := 5) (v := ?_) rfl (by kernel_rfl) (fun _ _ _ h => h) rfl ?_ hS ?_
        rotate_left
        · (intro w' hSw; (try dsimp only at hSw); go_simp; try with_reducible rfl)
        try simp only [Act.put, List.getElem_toArray, List.getElem_cons_succ, List.getElem_cons_zero, List.setIfInBounds_toArray, List.set_cons_zero, List.set_cons_succ]
        refine AnyG.takeC (i := 6) (v := ?_) rfl (by kernel_rfl) (fun _ _ _ h => h) rfl ?_ hS ?_
        rotate_left
        · (intro w' hSw; (try dsimp only at hSw); go_simp; try with_reducible rfl)
        try simp only [Act.put, List.getElem_toArray, List.getElem_cons_succ, List.getElem_cons_zero, List.setIfInBounds_toArray, List.set_cons_zero, List.set_cons_succ]
        refine AnyG.takeC (i := 7) (v := ?_) rfl (by kernel_rfl) (fun _ _ _ h => h) rfl ?_ hS ?_
        rotate_left
        · (intro w' hSw; (try dsimp only at hSw); have p1 := cellC hSw t0; go_simp; try with_reducible rfl)
        try simp only [Act.put, List.getElem_toArray, List.getElem_cons_succ, List.getElem_cons_zero, List.setIfInBounds_toArray, List.set_cons_zero, List.set_cons_succ]
        refine AnyG.takeC (i := 8) (v := ?_) rfl (by kernel_rfl) (fun _ _ _ h => h) rfl ?_ hS ?_
        rotate_left
        · (intro w' hSw; (try dsimp only at hSw); go_simp; try with_reducible rfl)
        try simp only [Act.put, List.getElem_toArray, List.getElem_cons_succ, List.getElem_cons_zero, List.setIfInBounds_toArray, List.set_cons_zero, List.set_cons_succ]
        refine AnyG.takeC (i := 11) (v := ?_) rfl (by kernel_rfl) (fun _ _ _ h => h) rfl ?_ hS ?_
        rotate_left
        · (intro w' hSw; (try dsimp only at hSw); obtain ⟨y0, y1, y2, y3, y4, y5, y6, yf, yz⟩ := (k4.call hSw).seven; rw [HLA.out] at y6; go_simp; try with_reducible rfl)
        try simp only [Act.put, List.getElem_toArray, List.getElem_cons_succ, List.getElem_cons_zero, List.setIfInBounds_toArray, List.set_cons_zero, List.set_cons_succ]
        refine AnyG.takeC (i := 13) (v := ?_) rfl (by kernel_rfl) (fun _ _ _ h => h) rfl ?_ hS ?_
        rotate_left
        · (intro w' hSw; (try dsimp only at hSw); go_simp; try with_reducible rfl)
        try simp only [Act.put, List.getElem_toArray, List.getElem_cons_succ, List.getElem_cons_zero, List.setIfInBounds_toArray, List.set_cons_zero, List.set_cons_succ]
        refine AnyG.takeC (i := 14) (v := ?_) rfl (by kernel_rfl) (fun _ _ _ h => h) rfl ?_ hS ?_
        rotate_left
        · (intro w' hSw; (try dsimp only at hSw); go_simp; try with_reducible rfl)
        try simp only [Act.put, List.getElem_toArray, List.getElem_cons_succ, List.getElem_cons_zero, List.setIfInBounds_toArray, List.set_cons_zero, List.set_cons_succ]
        refine AnyG.takeC (i := 15) (v := ?_) rfl (by kernel_rfl) (fun _ _ _ h => h) rfl ?_ hS ?_
        rotate_left
        · (intro w' hSw; (try dsimp only at hSw); go_simp; try with_reducible rfl)
        try simp only [Act.put, List.getElem_toArray, List.getElem_cons_succ, List.getElem_cons_zero, List.setIfInBounds_toArray, List.set_cons_zero, List.set_cons_succ]
        refine AnyG.takeC (i := 16) (v := ?_) rfl (by kernel_rfl) (fun _ _ _ h => h) rfl ?_ hS ?_
        rotate_left
        · (intro w' hSw; (try dsimp only at hSw); have p2 := cellC hSw t1; go_simp; try with_reducible rfl)
        try simp only [Act.put, List.getElem_toArray, List.getElem_cons_succ, List.getElem_cons_zero, List.setIfInBounds_toArray, List.set_cons_zero, List.set_cons_succ]
        refine AnyG.takeC (i := 17) (v := ?_) rfl (by kernel_rfl) (fun _ _ _ h => h) rfl ?_ hS ?_
        rotate_left
        · (intro w' hSw; (try dsimp only at hSw); go_simp; try with_reducible rfl)
        try simp only [Act.put, List.getElem_toArray, List.getElem_cons_succ, List.getElem_cons_zero, List.setIfInBounds_toArray, List.set_cons_zero, List.set_cons_succ]
        refine AnyG.one (i := 18) (by kernel_rfl) rfl rfl ?_
        go_simp
        refine Onward.on hS (fun hS2 => ?_)
        clear hS
        have hS := hS2
        clear hS2
        try simp only [Act.put, List.getElem_toArray, List.getElem_cons_succ, List.getElem_cons_zero, List.setIfInBounds_toArray, List.set_cons_zero, List.set_cons_succ]
        refine AnyG.one (i := 19) (by kernel_rfl) rfl rfl ?_
        go_simp
        refine Onward.last rfl ?_
        try simp only [Act.put, List.getElem_toArray, List.getElem_cons_succ, List.getElem_cons_zero, List.setIfInBounds_toArray, List.set_cons_zero, List.set_cons_succ]
        refine AnyG.done (by kernel_rfl) ?_ _
        go_simp
        clear hS
        have kx5 := kx4.drew
        have hB5 := hB4.drew
        obtain ⟨W5, hW5⟩ : ∃ x, W4.drew = x := ⟨_, rfl⟩
        rw [hW5] at kx5 hB5 ⊢
        clear hW5 kx4 k4
        obtain ⟨a0, a1, af, az⟩ := kx5.two'
        go_wp2_with fail
        have kx6 := (kx5.set_ 0 (.int .i64 (x0 + lo))).set_ 1 (.int .i64 (x1 + hi))
        simp only [List.setIfInBounds_toArray, List.set_cons_zero, List.set_cons_succ] at kx6
        have hB6 := (hB5.setCell (p := ⟨b6, 0, none⟩) hb6W (.int .i64 (x0 + lo))).setCell (p := ⟨b6, 1, none⟩) hb6W (.int .i64 (x1 + hi))
        go_roundw
        case rel => exact ⟨k + 1, x0 + lo, x1 + hi, by omega, by go_num, HX2, by omega, by omega, by omega, by omega, hB6, kx6⟩
        case measure => simp [intOf]; omega
    · obtain rfl : k = p.ln := by omega
      have HT : Hid (tiltP v.hs (abd v.ls s) = (x0, x1)) := Lib.hid (by rw [HX.out]; exact (tiF_all (fun y hy => (HST.out.inh y hy).1) (by rw [List.length_zip, HSL.out, HLL.out]; omega)).symm)
      obtain ⟨a0, a1, af, az⟩ := kx.two'
      have y2 := (kr.seven).2.2.1
      have c5 := c4.call hB
      obtain ⟨r0, r1, rf, rz⟩ := c5.two'
      have BB := Bw.trans (hB.mono Bw.size)
      go_wp2_with fail
      obtain ⟨lo, hlo⟩ : ∃ y, -1000 * v.tr = y := ⟨_, rfl⟩
      obtain ⟨hi, hhi⟩ : ∃ y, 1000 * v.tr = y := ⟨_, rfl⟩
      have w1 : IntKind.i64.wrap (-1000 * v.tr) = lo := by rw [hlo]; exact IntWalk.i64_in _ (by omega)
      have w2 : IntKind.i64.wrap (1000 * v.tr) = hi := by rw [hhi]; exact IntWalk.i64_in _ (by omega)
      have HLO := Lib.hid hlo
      have HHI := Lib.hid hhi
      clear hlo hhi
      by_cases h1 : lo ≤ x0
      · by_cases h2 : x1 ≤ hi
        · go_wp2_with fail
          refine AnyG.startC (by kernel_rfl) ?_
          refine AnyG.takeP (i := 0) (v := ?_) rfl (by kernel_rfl) (fun _ _ _ h => h) rfl ?_ ?_
          rotate_left
          · (intro w'; go_simp; try with_reducible rfl)
          try simp only [Act.put, List.getElem_toArray, List.getElem_cons_succ, List.getElem_cons_zero, List.setIfInBounds_toArray, List.set_cons_zero, List.set_cons_succ]
          refine AnyG.takeP (i := 2) (v := ?_) rfl (by kernel_rfl) (fun _ _ _ h => h) rfl ?_ ?_
          rotate_left
          · (intro w'; go_simp; try with_reducible rfl)
          try simp only [Act.put, List.getElem_toArray, List.getElem_cons_succ, List.getElem_cons_zero, List.setIfInBounds_toArray, List.set_cons_zero, List.set_cons_succ]
          refine AnyG.enter (fun w' : World => Below wr.heap.size wr w') (fun i => i != 16) ?_
          have hS : (fun w' : World => Below wr.heap.size wr w') (World.drew _) := (Below.refl _ _).drew
          refine AnyG.takeC (i := 1) (v := ?_) rfl (by kernel_rfl) (fun _ _ _ h => h) rfl ?_ hS ?_
          rotate_left
          · (intro w' hSw; (try dsimp only at hSw); have p0 := cellC hSw a0; go_simp; try with_reducible rfl)
          try simp only [Act.put, List.getElem_toArray, List.getElem_cons_succ, List.getElem_cons_zero, List.setIfInBounds_toArray, List.set_cons_zero, List.set_cons_succ]
          refine AnyG.takeC (i := 3) (v := ?_) rfl (by kernel_rfl) (fun _ _ _ h => h) rfl ?_ hS ?_
          rotate_left
          · (intro w' hSw; (try dsimp only at hSw); have p2 := cellC hSw y2; go_simp; try with_reducible rfl)
          try simp only [Act.put, List.getElem_toArray, List.getElem_cons_succ, List.getElem_cons_zero, List.setIfInBounds_toArray, List.set_cons_zero, List.set_cons_succ]
          refine AnyG.takeC (i := 4) (v := ?_) rfl (by kernel_rfl) (fun _ _ _ h => h) rfl ?_ hS ?_
          rotate_left
          · (intro w' hSw; (try dsimp only at hSw); go_simp; try with_reducible rfl)
          try simp only [Act.put, List.getElem_toArray, List.getElem_cons_succ, List.getElem_cons_zero, List.setIfInBounds_toArray, List.set_cons_zero, List.set_cons_succ]
          refine AnyG.takeC (i := 5) (v := ?_) rfl (by kernel_rfl) (fun _ _ _ h => h) rfl ?_ hS ?_
          rotate_left
          · (intro w' hSw; (try dsimp only at hSw); go_simp; try with_reducible rfl)
          try simp only [Act.put, List.getElem_toArray, List.getElem_cons_succ, List.getElem_cons_zero, List.setIfInBounds_toArray, List.set_cons_zero, List.set_cons_succ]
          refine AnyG.takeC (i := 6) (v := ?_) rfl (by kernel_rfl) (fun _ _ _ h => h) rfl ?_ hS ?_
          rotate_left
          · (intro w' hSw; (try dsimp only at hSw); go_simp; try with_reducible rfl)
          try simp only [Act.put, List.getElem_toArray, List.getElem_cons_succ, List.getElem_cons_zero, List.setIfInBounds_toArray, List.set_cons_zero, List.set_cons_succ]
          refine AnyG.takeGC (i := 7) (v := ?_) rfl (by kernel_rfl) (fun _ _ _ h => h) (by first | (simp [Region.wanted, yielded]; done) | simp [Region.wanted, yielded, undef]) ?_ hS ?_
          rotate_left
          · (intro w' hSw; (try dsimp only at hSw); go_simp; try with_reducible rfl)
          try simp only [Act.put, List.getElem_toArray, List.getElem_cons_succ, List.getElem_cons_zero, List.setIfInBounds_toArray, List.set_cons_zero, List.set_cons_succ]
          refine AnyG.takeGC (i := 8) (v := ?_) rfl (by kernel_rfl) (fun _ _ _ h => h) (by first | (simp [Region.wanted, yielded]; done) | simp [Region.wanted, yielded, undef]) ?_ hS ?_
          rotate_left
          · (intro w' hSw; (try dsimp only at hSw); have p1 := cellC hSw a1; go_simp; try with_reducible rfl)
          try simp only [Act.put, List.getElem_toArray, List.getElem_cons_succ, List.getElem_cons_zero, List.setIfInBounds_toArray, List.set_cons_zero, List.set_cons_succ]
          refine AnyG.takeGC (i := 9) (v := ?_) rfl (by kernel_rfl) (fun _ _ _ h => h) (by first | (simp [Region.wanted, yielded]; done) | simp [Region.wanted, yielded, undef]) ?_ hS ?_
          rotate_left
          · (intro w' hSw; (try dsimp only at hSw); go_simp; try with_reducible rfl)
          try simp only [Act.put, List.getElem_toArray, List.getElem_cons_succ, List.getElem_cons_zero, List.setIfInBounds_toArray, List.set_cons_zero, List.set_cons_succ]
          refine AnyG.takeGC (i := 10) (v := ?_) rfl (by kernel_rfl) (fun _ _ _ h => h) (by first | (simp [Region.wanted, yielded]; done) | simp [Region.wanted, yielded, undef]) ?_ hS ?_
          rotate_left
          · (intro w' hSw; (try dsimp only at hSw); have p2 := cellC hSw y2; go_simp; try with_reducible rfl)
          try simp only [Act.put, List.getElem_toArray, List.getElem_cons_succ, List.getElem_cons_zero, List.setIfInBounds_toArray, List.set_cons_zero, List.set_cons_succ]
          refine AnyG.takeGC (i := 11) (v := ?_) rfl (by kernel_rfl) (fun _ _ _ h => h) (by first | (simp [Region.wanted, yielded]; done) | simp [Region.wanted, yielded, undef]) ?_ hS ?_
          rotate_left
          · (intro w' hSw; (try dsimp only at hSw); go_simp; try with_reducible rfl)
          try simp only [Act.put, List.getElem_toArray, List.getElem_cons_succ, List.getElem_cons_zero, List.setIfInBounds_toArray, List.set_cons_zero, List.set_cons_succ]
          refine AnyG.takeGC (i := 12) (v := ?_) rfl (by kernel_rfl) (fun _ _ _ h => h) (by first | (simp [Region.wanted, yielded]; done) | simp [Region.wanted, yielded, undef]) ?_ hS ?_
          rotate_left
          · (intro w' hSw; (try dsimp only at hSw); go_simp; try with_reducible rfl)
          try simp only [Act.put, List.getElem_toArray, List.getElem_cons_succ, List.getElem_cons_zero, List.setIfInBounds_toArray, List.set_cons_zero, List.set_cons_succ]
          refine AnyG.takeC (i := 13) (v := ?_) rfl (by kernel_rfl) (fun _ _ _ h => h) rfl ?_ hS ?_
          rotate_left
          · (intro w' hSw; (try dsimp only at hSw); go_simp; try with_reducible rfl)
          try simp only [Act.put, List.getElem_toArray, List.getElem_cons_succ, List.getElem_cons_zero, List.setIfInBounds_toArray, List.set_cons_zero, List.set_cons_succ]
          refine AnyG.takeC (i := 14) (v := ?_) rfl (by kernel_rfl) (fun _ _ _ h => h) rfl ?_ hS ?_
          rotate_left
          · (intro w' hSw; (try dsimp only at hSw); obtain ⟨j0, j1, jf, jz⟩ := (kx.call hSw).two'; go_simp; try with_reducible rfl)
          try simp only [Act.put, List.getElem_toArray, List.getElem_cons_succ, List.getElem_cons_zero, List.setIfInBounds_toArray, List.set_cons_zero, List.set_cons_succ]
          refine AnyG.one (i := 15) (by kernel_rfl) rfl rfl ?_
          go_simp
          refine Onward.on hS (fun hS2 => ?_)
          clear hS
          have hS := hS2
          clear hS2
          try simp only [Act.put, List.getElem_toArray, List.getElem_cons_succ, List.getElem_cons_zero, List.setIfInBounds_toArray, List.set_cons_zero, List.set_cons_succ]
          refine AnyG.one (i := 16) (by kernel_rfl) rfl rfl ?_
          go_simp
          refine Onward.last rfl ?_
          try simp only [Act.put, List.getElem_toArray, List.getElem_cons_succ, List.getElem_cons_zero, List.setIfInBounds_toArray, List.set_cons_zero, List.set_cons_succ]
          refine AnyG.done (by kernel_rfl) ?_ _
          go_simp
          go_wp2_with fail
          have q4 := (c5.set_ 0 (.int .i64 x0)).set_ 1 (.int .i64 x1)
          simp only [List.setIfInBounds_toArray, List.set_cons_zero, List.set_cons_succ] at q4
          have BZ := (BB.setCell (p := ⟨w.heap.size + 1, 0, none⟩) (by dsimp only; omega) (.int .i64 x0)).setCell (p := ⟨w.heap.size + 1, 1, none⟩) (by dsimp only; omega) (.int .i64 x1)
          have hl : lvlOk v (x0, x1) = true := by
            have a := HLO.out
            have b := HHI.out
            skip
            unfold lvlOk
            simp only [decide_eq_true_eq, decide_eq_false_iff_not]
            omega
          obtain ⟨Z, hZ⟩ : ∃ Z, ((wr.setCell ⟨w.heap.size + 1, 0, none⟩ (.int .i64 x0)).setCell ⟨w.heap.size + 1, 1, none⟩ (.int .i64 x1)).drew = Z := ⟨_, rfl⟩
          have r4 : Bx Z (w.heap.size + 1) 41 #[.int .i64 x0, .int .i64 x1] := by rw [← hZ]; exact q4.drew
          have BY : Below w.heap.size w Z := by rw [← hZ]; exact BZ.drew
          rw [hZ]
          clear hZ
          obtain ⟨s0, s1, sf, sz⟩ := r4.two'
          exact bodyPost_ret (v := .tuple #[.bool true, .agg #[.int .i64 x0, .int .i64 x1]]) (by simp [results, Try.results59, go_sem, s0, s1]) rfl ⟨by rw [HT.out, hl], BY⟩
        · have e2 : (x1 ≤ hi) = False := eq_false h2
          clear h2
          go_wp2_with fail
          refine AnyG.startC (by kernel_rfl) ?_
          refine AnyG.takeP (i := 0) (v := ?_) rfl (by kernel_rfl) (fun _ _ _ h => h) rfl ?_ ?_
          rotate_left
          · (intro w'; go_simp; try with_reducible rfl)
          try simp only [Act.put, List.getElem_toArray, List.getElem_cons_succ, List.getElem_cons_zero, List.setIfInBounds_toArray, List.set_cons_zero, List.set_cons_succ]
          refine AnyG.takeP (i := 2) (v := ?_) rfl (by kernel_rfl) (fun _ _ _ h => h) rfl ?_ ?_
          rotate_left
          · (intro w'; go_simp; try with_reducible rfl)
          try simp only [Act.put, List.getElem_toArray, List.getElem_cons_succ, List.getElem_cons_zero, List.setIfInBounds_toArray, List.set_cons_zero, List.set_cons_succ]
          refine AnyG.enter (fun w' : World => Below wr.heap.size wr w') (fun i => i != 16) ?_
          have hS : (fun w' : World => Below wr.heap.size wr w') (World.drew _) := (Below.refl _ _).drew
          refine AnyG.takeC (i := 1) (v := ?_) rfl (by kernel_rfl) (fun _ _ _ h => h) rfl ?_ hS ?_
          rotate_left
          · (intro w' hSw; (try dsimp only at hSw); have p0 := cellC hSw a0; go_simp; try with_reducible rfl)
          try simp only [Act.put, List.getElem_toArray, List.getElem_cons_succ, List.getElem_cons_zero, List.setIfInBounds_toArray, List.set_cons_zero, List.set_cons_succ]
          refine AnyG.takeC (i := 3) (v := ?_) rfl (by kernel_rfl) (fun _ _ _ h => h) rfl ?_ hS ?_
          rotate_left
          · (intro w' hSw; (try dsimp only at hSw); have p2 := cellC hSw y2; go_simp; try with_reducible rfl)
          try simp only [Act.put, List.getElem_toArray, List.getElem_cons_succ, List.getElem_cons_zero, List.setIfInBounds_toArray, List.set_cons_zero, List.set_cons_succ]
          refine AnyG.takeC (i := 4) (v := ?_) rfl (by kernel_rfl) (fun _ _ _ h => h) rfl ?_ hS ?_
          rotate_left
          · (intro w' hSw; (try dsimp only at hSw); go_simp; try with_reducible rfl)
          try simp only [Act.put, List.getElem_toArray, List.getElem_cons_succ, List.getElem_cons_zero, List.setIfInBounds_toArray, List.set_cons_zero, List.set_cons_succ]
          refine AnyG.takeC (i := 5) (v := ?_) rfl (by kernel_rfl) (fun _ _ _ h => h) rfl ?_ hS ?_
          rotate_left
          · (intro w' hSw; (try dsimp only at hSw); go_simp; try with_reducible rfl)
          try simp only [Act.put, List.getElem_toArray, List.getElem_cons_succ, List.getElem_cons_zero, List.setIfInBounds_toArray, List.set_cons_zero, List.set_cons_succ]
          refine AnyG.takeC (i := 6) (v := ?_) rfl (by kernel_rfl) (fun _ _ _ h => h) rfl ?_ hS ?_
          rotate_left
          · (intro w' hSw; (try dsimp only at hSw); go_simp; try with_reducible rfl)
          try simp only [Act.put, List.getElem_toArray, List.getElem_cons_succ, List.getElem_cons_zero, List.setIfInBounds_toArray, List.set_cons_zero, List.set_cons_succ]
          refine AnyG.takeGC (i := 7) (v := ?_) rfl (by kernel_rfl) (fun _ _ _ h => h) (by first | (simp [Region.wanted, yielded]; done) | simp [Region.wanted, yielded, undef]) ?_ hS ?_
          rotate_left
          · (intro w' hSw; (try dsimp only at hSw); go_simp; try with_reducible rfl)
          try simp only [Act.put, List.getElem_toArray, List.getElem_cons_succ, List.getElem_cons_zero, List.setIfInBounds_toArray, List.set_cons_zero, List.set_cons_succ]
          refine AnyG.takeGC (i := 8) (v := ?_) rfl (by kernel_rfl) (fun _ _ _ h => h) (by first | (simp [Region.wanted, yielded]; done) | simp [Region.wanted, yielded, undef]) ?_ hS ?_
          rotate_left
          · (intro w' hSw; (try dsimp only at hSw); have p1 := cellC hSw a1; go_simp; try with_reducible rfl)
          try simp only [Act.put, List.getElem_toArray, List.getElem_cons_succ, List.getElem_cons_zero, List.setIfInBounds_toArray, List.set_cons_zero, List.set_cons_succ]
          refine AnyG.takeGC (i := 9) (v := ?_) rfl (by kernel_rfl) (fun _ _ _ h => h) (by first | (simp [Region.wanted, yielded]; done) | simp [Region.wanted, yielded, undef]) ?_ hS ?_
          rotate_left
          · (intro w' hSw; (try dsimp only at hSw); go_simp; try with_reducible rfl)
          try simp only [Act.put, List.getElem_toArray, List.getElem_cons_succ, List.getElem_cons_zero, List.setIfInBounds_toArray, List.set_cons_zero, List.set_cons_succ]
          refine AnyG.takeGC (i := 10) (v := ?_) rfl (by kernel_rfl) (fun _ _ _ h => h) (by first | (simp [Region.wanted, yielded]; done) | simp [Region.wanted, yielded, undef]) ?_ hS ?_
          rotate_left
          · (intro w' hSw; (try dsimp only at hSw); have p2 := cellC hSw y2; go_simp; try with_reducible rfl)
          try simp only [Act.put, List.getElem_toArray, List.getElem_cons_succ, List.getElem_cons_zero, List.setIfInBounds_toArray, List.set_cons_zero, List.set_cons_succ]
          refine AnyG.takeGC (i := 11) (v := ?_) rfl (by kernel_rfl) (fun _ _ _ h => h) (by first | (simp [Region.wanted, yielded]; done) | simp [Region.wanted, yielded, undef]) ?_ hS ?_
          rotate_left
          · (intro w' hSw; (try dsimp only at hSw); go_simp; try with_reducible rfl)
          try simp only [Act.put, List.getElem_toArray, List.getElem_cons_succ, List.getElem_cons_zero, List.setIfInBounds_toArray, List.set_cons_zero, List.set_cons_succ]
          refine AnyG.takeGC (i := 12) (v := ?_) rfl (by kernel_rfl) (fun _ _ _ h => h) (by first | (simp [Region.wanted, yielded]; done) | simp [Region.wanted, yielded, undef]) ?_ hS ?_
          rotate_left
          · (intro w' hSw; (try dsimp only at hSw); go_simp; try with_reducible rfl)
          try simp only [Act.put, List.getElem_toArray, List.getElem_cons_succ, List.getElem_cons_zero, List.setIfInBounds_toArray, List.set_cons_zero, List.set_cons_succ]
          refine AnyG.takeC (i := 13) (v := ?_) rfl (by kernel_rfl) (fun _ _ _ h => h) rfl ?_ hS ?_
          rotate_left
          · (intro w' hSw; (try dsimp only at hSw); go_simp; try with_reducible rfl)
          try simp only [Act.put, List.getElem_toArray, List.getElem_cons_succ, List.getElem_cons_zero, List.setIfInBounds_toArray, List.set_cons_zero, List.set_cons_succ]
          refine AnyG.takeC (i := 14) (v := ?_) rfl (by kernel_rfl) (fun _ _ _ h => h) rfl ?_ hS ?_
          rotate_left
          · (intro w' hSw; (try dsimp only at hSw); obtain ⟨j0, j1, jf, jz⟩ := (kx.call hSw).two'; go_simp; try with_reducible rfl)
          try simp only [Act.put, List.getElem_toArray, List.getElem_cons_succ, List.getElem_cons_zero, List.setIfInBounds_toArray, List.set_cons_zero, List.set_cons_succ]
          refine AnyG.one (i := 15) (by kernel_rfl) rfl rfl ?_
          go_simp
          refine Onward.on hS (fun hS2 => ?_)
          clear hS
          have hS := hS2
          clear hS2
          try simp only [Act.put, List.getElem_toArray, List.getElem_cons_succ, List.getElem_cons_zero, List.setIfInBounds_toArray, List.set_cons_zero, List.set_cons_succ]
          refine AnyG.one (i := 16) (by kernel_rfl) rfl rfl ?_
          go_simp
          refine Onward.last rfl ?_
          try simp only [Act.put, List.getElem_toArray, List.getElem_cons_succ, List.getElem_cons_zero, List.setIfInBounds_toArray, List.set_cons_zero, List.set_cons_succ]
          refine AnyG.done (by kernel_rfl) ?_ _
          go_simp
          go_wp2_with fail
          have q4 := (c5.set_ 0 (.int .i64 x0)).set_ 1 (.int .i64 x1)
          simp only [List.setIfInBounds_toArray, List.set_cons_zero, List.set_cons_succ] at q4
          have BZ := (BB.setCell (p := ⟨w.heap.size + 1, 0, none⟩) (by dsimp only; omega) (.int .i64 x0)).setCell (p := ⟨w.heap.size + 1, 1, none⟩) (by dsimp only; omega) (.int .i64 x1)
          have hl : lvlOk v (x0, x1) = false := by
            have a := HLO.out
            have b := HHI.out
            have h2 := of_eq_false e2
            unfold lvlOk
            simp only [decide_eq_true_eq, decide_eq_false_iff_not]
            omega
          obtain ⟨Z, hZ⟩ : ∃ Z, ((wr.setCell ⟨w.heap.size + 1, 0, none⟩ (.int .i64 x0)).setCell ⟨w.heap.size + 1, 1, none⟩ (.int .i64 x1)).drew = Z := ⟨_, rfl⟩
          have r4 : Bx Z (w.heap.size + 1) 41 #[.int .i64 x0, .int .i64 x1] := by rw [← hZ]; exact q4.drew
          have BY : Below w.heap.size w Z := by rw [← hZ]; exact BZ.drew
          rw [hZ]
          clear hZ
          obtain ⟨s0, s1, sf, sz⟩ := r4.two'
          exact bodyPost_ret (v := .tuple #[.bool false, .agg #[.int .i64 x0, .int .i64 x1]]) (by simp [results, Try.results59, go_sem, s0, s1]) rfl ⟨by rw [HT.out, hl], BY⟩
      · have e1 : (lo ≤ x0) = False := eq_false h1
        clear h1
        go_wp2_with fail
        refine AnyG.startC (by kernel_rfl) ?_
        refine AnyG.takeP (i := 0) (v := ?_) rfl (by kernel_rfl) (fun _ _ _ h => h) rfl ?_ ?_
        rotate_left
        · (intro w'; go_simp; try with_reducible rfl)
        try simp only [Act.put, List.getElem_toArray, List.getElem_cons_succ, List.getElem_cons_zero, List.setIfInBounds_toArray, List.set_cons_zero, List.set_cons_succ]
        refine AnyG.takeP (i := 2) (v := ?_) rfl (by kernel_rfl) (fun _ _ _ h => h) rfl ?_ ?_
        rotate_left
        · (intro w'; go_simp; try with_reducible rfl)
        try simp only [Act.put, List.getElem_toArray, List.getElem_cons_succ, List.getElem_cons_zero, List.setIfInBounds_toArray, List.set_cons_zero, List.set_cons_succ]
        refine AnyG.enter (fun w' : World => Below wr.heap.size wr w') (fun i => i != 16) ?_
        have hS : (fun w' : World => Below wr.heap.size wr w') (World.drew _) := (Below.refl _ _).drew
        refine AnyG.takeC (i := 1) (v := ?_) rfl (by kernel_rfl) (fun _ _ _ h => h) rfl ?_ hS ?_
        rotate_left
        · (intro w' hSw; (try dsimp only at hSw); have p0 := cellC hSw a0; go_simp; try with_reducible rfl)
        try simp only [Act.put, List.getElem_toArray, List.getElem_cons_succ, List.getElem_cons_zero, List.setIfInBounds_toArray, List.set_cons_zero, List.set_cons_succ]
        refine AnyG.takeC (i := 3) (v := ?_) rfl (by kernel_rfl) (fun _ _ _ h => h) rfl ?_ hS ?_
        rotate_left
        · (intro w' hSw; (try dsimp only at hSw); have p2 := cellC hSw y2; go_simp; try with_reducible rfl)
        try simp only [Act.put, List.getElem_toArray, List.getElem_cons_succ, List.getElem_cons_zero, List.setIfInBounds_toArray, List.set_cons_zero, List.set_cons_succ]
        refine AnyG.takeC (i := 4) (v := ?_) rfl (by kernel_rfl) (fun _ _ _ h => h) rfl ?_ hS ?_
        rotate_left
        · (intro w' hSw; (try dsimp only at hSw); go_simp; try with_reducible rfl)
        try simp only [Act.put, List.getElem_toArray, List.getElem_cons_succ, List.getElem_cons_zero, List.setIfInBounds_toArray, List.set_cons_zero, List.set_cons_succ]
        refine AnyG.takeC (i := 5) (v := ?_) rfl (by kernel_rfl) (fun _ _ _ h => h) rfl ?_ hS ?_
        rotate_left
        · (intro w' hSw; (try dsimp only at hSw); go_simp; try with_reducible rfl)
        try simp only [Act.put, List.getElem_toArray, List.getElem_cons_succ, List.getElem_cons_zero, List.setIfInBounds_toArray, List.set_cons_zero, List.set_cons_succ]
        refine AnyG.takeC (i := 6) (v := ?_) rfl (by kernel_rfl) (fun _ _ _ h => h) rfl ?_ hS ?_
        rotate_left
        · (intro w' hSw; (try dsimp only at hSw); go_simp; try with_reducible rfl)
        try simp only [Act.put, List.getElem_toArray, List.getElem_cons_succ, List.getElem_cons_zero, List.setIfInBounds_toArray, List.set_cons_zero, List.set_cons_succ]
        refine AnyG.takeNC (i := 7) rfl (by kernel_rfl) (fun _ _ _ h => h) (by first | (simp [Region.wanted, yielded]; done) | simp [Region.wanted, yielded, undef]) hS ?_
        try simp only [Act.put, List.getElem_toArray, List.getElem_cons_succ, List.getElem_cons_zero, List.setIfInBounds_toArray, List.set_cons_zero, List.set_cons_succ]
        refine AnyG.takeNC (i := 8) rfl (by kernel_rfl) (fun _ _ _ h => h) (by first | (simp [Region.wanted, yielded]; done) | simp [Region.wanted, yielded, undef]) hS ?_
        try simp only [Act.put, List.getElem_toArray, List.getElem_cons_succ, List.getElem_cons_zero, List.setIfInBounds_toArray, List.set_cons_zero, List.set_cons_succ]
        refine AnyG.takeNC (i := 9) rfl (by kernel_rfl) (fun _ _ _ h => h) (by first | (simp [Region.wanted, yielded]; done) | simp [Region.wanted, yielded, undef]) hS ?_
        try simp only [Act.put, List.getElem_toArray, List.getElem_cons_succ, List.getElem_cons_zero, List.setIfInBounds_toArray, List.set_cons_zero, List.set_cons_succ]
        refine AnyG.takeNC (i := 10) rfl (by kernel_rfl) (fun _ _ _ h => h) (by first | (simp [Region.wanted, yielded]; done) | simp [Region.wanted, yielded, undef]) hS ?_
        try simp only [Act.put, List.getElem_toArray, List.getElem_cons_succ, List.getElem_cons_zero, List.setIfInBounds_toArray, List.set_cons_zero, List.set_cons_succ]
        refine AnyG.takeNC (i := 11) rfl (by kernel_rfl) (fun _ _ _ h => h) (by first | (simp [Region.wanted, yielded]; done) | simp [Region.wanted, yielded, undef]) hS ?_
        try simp only [Act.put, List.getElem_toArray, List.getElem_cons_succ, List.getElem_cons_zero, List.setIfInBounds_toArray, List.set_cons_zero, List.set_cons_succ]
        refine AnyG.takeNC (i := 12) rfl (by kernel_rfl) (fun _ _ _ h => h) (by first | (simp [Region.wanted, yielded]; done) | simp [Region.wanted, yielded, undef]) hS ?_
        try simp only [Act.put, List.getElem_toArray, List.getElem_cons_succ, List.getElem_cons_zero, List.setIfInBounds_toArray, List.set_cons_zero, List.set_cons_succ]
        refine AnyG.takeC (i := 13) (v := ?_) rfl (by kernel_rfl) (fun _ _ _ h => h) rfl ?_ hS ?_
        rotate_left
        · (intro w' hSw; (try dsimp only at hSw); go_simp; try with_reducible rfl)
        try simp only [Act.put, List.getElem_toArray, List.getElem_cons_succ, List.getElem_cons_zero, List.setIfInBounds_toArray, List.set_cons_zero, List.set_cons_succ]
        refine AnyG.takeC (i := 14) (v := ?_) rfl (by kernel_rfl) (fun _ _ _ h => h) rfl ?_ hS ?_
        rotate_left
        · (intro w' hSw; (try dsimp only at hSw); obtain ⟨j0, j1, jf, jz⟩ := (kx.call hSw).two'; go_simp; try with_reducible rfl)
        try simp only [Act.put, List.getElem_toArray, List.getElem_cons_succ, List.getElem_cons_zero, List.setIfInBounds_toArray, List.set_cons_zero, List.set_cons_succ]
        refine AnyG.one (i := 15) (by kernel_rfl) rfl rfl ?_
        go_simp
        refine Onward.on hS (fun hS2 => ?_)
        clear hS
        have hS := hS2
        clear hS2
        try simp only [Act.put, List.getElem_toArray, List.getElem_cons_succ, List.getElem_cons_zero, List.setIfInBounds_toArray, List.set_cons_zero, List.set_cons_succ]
        refine AnyG.one (i := 16) (by kernel_rfl) rfl rfl ?_
        go_simp
        refine Onward.last rfl ?_
        try simp only [Act.put, List.getElem_toArray, List.getElem_cons_succ, List.getElem_cons_zero, List.setIfInBounds_toArray, List.set_cons_zero, List.set_cons_succ]
        refine AnyG.done (by kernel_rfl) ?_ _
        go_simp
        go_wp2_with fail
        have q4 := (c5.set_ 0 (.int .i64 x0)).set_ 1 (.int .i64 x1)
        simp only [List.setIfInBounds_toArray, List.set_cons_zero, List.set_cons_succ] at q4
        have BZ := (BB.setCell (p := ⟨w.heap.size + 1, 0, none⟩) (by dsimp only; omega) (.int .i64 x0)).setCell (p := ⟨w.heap.size + 1, 1, none⟩) (by dsimp only; omega) (.int .i64 x1)
        have hl : lvlOk v (x0, x1) = false := by
          have a := HLO.out
          have b := HHI.out
          have h1 := of_eq_false e1
          unfold lvlOk
          simp only [decide_eq_true_eq, decide_eq_false_iff_not]
          omega
        obtain ⟨Z, hZ⟩ : ∃ Z, ((wr.setCell ⟨w.heap.size + 1, 0, none⟩ (.int .i64 x0)).setCell ⟨w.heap.size + 1, 1, none⟩ (.int .i64 x1)).drew = Z := ⟨_, rfl⟩
        have r4 : Bx Z (w.heap.size + 1) 41 #[.int .i64 x0, .int .i64 x1] := by rw [← hZ]; exact q4.drew
        have BY : Below w.heap.size w Z := by rw [← hZ]; exact BZ.drew
        rw [hZ]
        clear hZ
        obtain ⟨s0, s1, sf, sz⟩ := r4.two'
        exact bodyPost_ret (v := .tuple #[.bool false, .agg #[.int .i64 x0, .int .i64 x1]]) (by simp [results, Try.results59, go_sem, s0, s1]) rfl ⟨by rw [HT.out, hl], BY⟩
end Go.Proofs.Ytfcpjkofbejleaa
