/- The reference of layer 1: between, checkRange, checkEvent, Check return what ckR, ckE, ckL say, for all arguments; Loads, may, none. -/
import Derived.Test.YtgbogdckmfencaaCk
import Derived.Test.YtgbogdckmfencaaMo
import Derived.Test.YtgbogdckmfencaaWi
set_option linter.unusedSimpArgs false
set_option linter.unusedVariables false
namespace Go.Proofs.Ytgbogdckmfencaa
open Go Go.RowKit
def btwB (n lo hi : Int) : Bool := decide (lo ≤ n ∧ n ≤ hi)
theorem btw_t {n lo hi : Int} (h : lo ≤ n ∧ n ≤ hi) : btwB n lo hi = true := decide_eq_true h
theorem btw_f {n lo hi : Int} (h : ¬ (lo ≤ n ∧ n ≤ hi)) : btwB n lo hi = false := decide_eq_false h
theorem between_b (n lo hi : Int) (w : World) : Calls Try.prog 64 #[.int .i64 n, .int .i64 lo, .int .i64 hi] w fun e w' => e = .returned (.bool (btwB n lo hi)) ∧ w = w' := by
  by_cases h1 : lo ≤ n
  · by_cases h2 : n ≤ hi
    · rw [btw_t ⟨h1, h2⟩]
      go_enter Try.func64, Try.ntmps64
      go_wp2
      all_goals go_ret
      all_goals first | exact ⟨rfl, rfl⟩ | trace_state
    · rw [btw_f (fun h => h2 h.2)]
      go_enter Try.func64, Try.ntmps64
      go_wp2
      all_goals go_ret
      all_goals first | exact ⟨rfl, rfl⟩ | trace_state
  · rw [btw_f (fun h => h1 h.1)]
    go_enter Try.func64, Try.ntmps64
    go_wp2
    all_goals go_ret
    all_goals first | exact ⟨rfl, rfl⟩ | trace_state
theorem refRange_any (a b lo hi : Int) (w : World) :
    Calls Try.prog 65 #[.agg #[.int .i64 a, .int .i64 b], .int .i64 lo, .int .i64 hi] w fun e w' => e = .returned (.int .i64 (ckR a b lo hi)) ∧ Below w.heap.size w w' := by
  by_cases ha : lo ≤ a ∧ a ≤ hi
  · have h1 := btw_t ha
    by_cases hb : lo ≤ b ∧ b ≤ hi
    · have h2 := btw_t hb
      go_enter Try.func65, Try.ntmps65
      go_wp2_with (first | (go_at_call 64; refine (between_b _ _ _ _).mono ?_; rintro e w1 ⟨rfl, rfl⟩) | fail)
      all_goals
        go_ret
        refine ⟨ret_int ?_, (Below.refl _ _).alloc (Nat.le_refl _) _⟩
        unfold ckR
        repeat (first | rw [if_pos (by omega)] | rw [if_neg (by omega)])
    · have h2 := btw_f hb
      go_enter Try.func65, Try.ntmps65
      go_wp2_with (first | (go_at_call 64; refine (between_b _ _ _ _).mono ?_; rintro e w1 ⟨rfl, rfl⟩) | fail)
      all_goals
        go_ret
        refine ⟨ret_int ?_, (Below.refl _ _).alloc (Nat.le_refl _) _⟩
        unfold ckR
        repeat (first | rw [if_pos (by omega)] | rw [if_neg (by omega)])
  · have h1 := btw_f ha
    go_enter Try.func65, Try.ntmps65
    go_wp2_with (first | (go_at_call 64; refine (between_b _ _ _ _).mono ?_; rintro e w1 ⟨rfl, rfl⟩) | fail)
    all_goals
      go_ret
      refine ⟨ret_int ?_, (Below.refl _ _).alloc (Nat.le_refl _) _⟩
      unfold ckR
      repeat (first | rw [if_pos (by omega)] | rw [if_neg (by omega)])
set_option maxHeartbeats 2000000 in
theorem refEvent_any (st z0 z1 : Int) (A : Option Addr) (n c : Nat) (kd sh ld c0 c1 : Int) (w : World) (h1 : 1 ≤ st) (h2 : st ≤ 100) :
    Calls Try.prog 66 #[.agg #[.int .i64 st, .int .i64 z0, .int .i64 z1, .slice A n c], .agg #[.int .i64 kd, .int .i64 sh, .int .i64 ld, .int .i64 c0, .int .i64 c1]] w fun r w' => r = .returned (.int .i64 (ckE st ⟨kd, sh, ld, c0, c1⟩)) ∧ Below w.heap.size w w' := by
  have hB2 := ((Below.refl w.heap.size w).alloc (Nat.le_refl _) (.cells #[.int .i64 st, .int .i64 z0, .int .i64 z1, .slice A n c] 26)).alloc (by simp) (.cells #[.int .i64 kd, .int .i64 sh, .int .i64 ld, .int .i64 c0, .int .i64 c1] 28)
  have HB2 := Lib.hid hB2
  clear hB2
  obtain ⟨x1, e1⟩ : ∃ x, btwB kd 1 3 = x := ⟨_, rfl⟩
  obtain ⟨x2, e2⟩ : ∃ x, btwB sh (-60000) 60000 = x := ⟨_, rfl⟩
  obtain ⟨x3, e3⟩ : ∃ x, btwB ld 0 60000 = x := ⟨_, rfl⟩
  cases x1
  · go_enter Try.func66, Try.ntmps66
    go_wp2_with (first | (go_at_call 64; refine (between_b _ _ _ _).mono ?_; rintro e w1 ⟨rfl, rfl⟩) | fail)
    go_ret
    refine ⟨ret_int ?_, HB2.out⟩
    unfold btwB at e1
    have := of_decide_eq_false e1
    unfold ckE
    rw [if_pos (by dsimp only; omega)]
  · have f1 := of_decide_eq_true e1
    cases x2
    · go_enter Try.func66, Try.ntmps66
      go_wp2_with (first | (go_at_call 64; refine (between_b _ _ _ _).mono ?_; rintro e w1 ⟨rfl, rfl⟩) | fail)
      go_ret
      refine ⟨ret_int ?_, HB2.out⟩
      have := of_decide_eq_false e2
      unfold ckE
      dsimp only
      rw [if_neg (by omega), if_pos (by omega)]
    · have f2 := of_decide_eq_true e2
      by_cases hm : sh.tmod st = 0
      · cases x3
        · go_enter Try.func66, Try.ntmps66
          go_wp2_with (first | (go_at_call 64; refine (between_b _ _ _ _).mono ?_; rintro e w1 ⟨rfl, rfl⟩) | fail)
          all_goals go_ret
          all_goals refine ⟨ret_int ?_, HB2.out⟩
          all_goals have := of_decide_eq_false e3
          all_goals unfold ckE
          all_goals dsimp only
          all_goals rw [if_neg (by omega), if_neg (by omega), if_neg (by omega), if_pos (by omega)]
        · have f3 := of_decide_eq_true e3
          go_enter Try.func66, Try.ntmps66
          go_wp2_with (first | (go_at_call 64; refine (between_b _ _ _ _).mono ?_; rintro e w1 ⟨rfl, rfl⟩) | (go_at_call 65; refine (refRange_any _ _ _ _ _).mono ?_; rintro e w1 ⟨rfl, hb⟩) | fail)
          all_goals go_ret
          all_goals refine ⟨ret_int ?_, by first | exact HB2.out | exact (((Below.refl _ _).alloc (Nat.le_refl _) _).alloc (by simp) _) | exact (((Below.refl _ _).alloc (Nat.le_refl _) _).alloc (by simp) _).trans (hb.mono (by simp; omega))⟩
          all_goals unfold ckE
          all_goals dsimp only
          all_goals try simp only [bne_iff_ne, bne_eq_false_iff_eq] at *
          all_goals first | (exfalso; omega) | repeat (first | rw [if_pos (by omega)] | rw [if_neg (by omega)])
      · go_enter Try.func66, Try.ntmps66
        go_wp2_with (first | (go_at_call 64; refine (between_b _ _ _ _).mono ?_; rintro e w1 ⟨rfl, rfl⟩) | fail)
        all_goals go_ret
        all_goals refine ⟨ret_int ?_, HB2.out⟩
        all_goals unfold ckE
        all_goals dsimp only
        all_goals rw [if_neg (by omega), if_neg (by omega), if_pos (by omega)]
set_option maxHeartbeats 2000000 in
theorem refCheck_any (st z0 z1 : Int) (A : Option Addr) (n c : Nat) (es : List Ev) (w : World) (hn : n ≤ 9223372036854775807) (hl : es.length = n) (hA : EvsAt w w.heap.size A es) :
    Calls Try.prog 23 #[.agg #[.int .i64 st, .int .i64 z0, .int .i64 z1, .slice A n c]] w fun e w' => e = .returned (.int .i64 (ckL st z0 z1 es)) ∧ Below w.heap.size w w' := by
  have HL := Lib.hid hl
  clear hl
  by_cases hs : 1 ≤ st ∧ st ≤ 100
  case neg =>
    have H1 : ckL st z0 z1 es = 1 := by unfold ckL; rw [if_pos (by omega)]
    have e1 := btw_f hs
    go_enter Try.func23, Try.ntmps23
    go_wp2_with (first | (go_at_call 64; refine (between_b _ _ _ _).mono ?_; rintro e w1 ⟨rfl, rfl⟩) | fail)
    all_goals
      go_ret
      exact ⟨ret_int (by first | rfl | exact H1.symm), (Below.refl _ _).alloc (Nat.le_refl _) _⟩
  have e1 := btw_t hs
  obtain ⟨hs1, hs2⟩ := hs
  have hs0 : ¬ (st < 1 ∨ 100 < st) := by omega
  by_cases hz : ckR z0 z1 (-200) 200 = 0
  case neg =>
    have hz' : (ckR z0 z1 (-200) 200 != 0) = true := by simpa using hz
    have H1 : ckL st z0 z1 es = ckR z0 z1 (-200) 200 := by unfold ckL; rw [if_neg hs0, if_pos hz]
    go_enter Try.func23, Try.ntmps23
    go_wp2_with (first | (go_at_call 64; refine (between_b _ _ _ _).mono ?_; rintro e w1 ⟨rfl, rfl⟩) | (go_at_call 65; refine (refRange_any _ _ _ _ _).mono ?_; rintro e w1 ⟨rfl, hb⟩; obtain ⟨hc, hf⟩ := bcell hb) | fail)
    go_ret
    exact ⟨ret_int H1.symm, ((Below.refl _ _).alloc (Nat.le_refl _) _).trans (hb.mono (by simp))⟩
  have hz' : (ckR z0 z1 (-200) 200 != 0) = false := by simpa using hz
  have HZ := Lib.hid hz
  clear hz
  by_cases hn2 : 14 < n
  case pos =>
    have H1 : ckL st z0 z1 es = 6 := by unfold ckL; rw [if_neg hs0, if_neg (fun h => h HZ.out), if_pos (by rw [HL.out]; omega)]
    go_enter Try.func23, Try.ntmps23
    go_wp2_with (first | (go_at_call 64; refine (between_b _ _ _ _).mono ?_; rintro e w1 ⟨rfl, rfl⟩) | (go_at_call 65; refine (refRange_any _ _ _ _ _).mono ?_; rintro e w1 ⟨rfl, hb⟩; obtain ⟨hc, hf⟩ := bcell hb) | fail)
    go_ret
    exact ⟨ret_int H1.symm, ((Below.refl _ _).alloc (Nat.le_refl _) _).trans (hb.mono (by simp))⟩
  have H1 : ckL st z0 z1 es = ckEs st es := by unfold ckL; rw [if_neg hs0, if_neg (fun h => h HZ.out), if_neg (by rw [HL.out]; omega)]
  have H1 := Lib.hid H1
  go_enter Try.func23, Try.ntmps23
  go_wp2_with (first | (go_at_call 64; refine (between_b _ _ _ _).mono ?_; rintro e w1 ⟨rfl, rfl⟩) | (go_at_call 65; refine (refRange_any _ _ _ _ _).mono ?_; rintro e w1 ⟨rfl, hb⟩; obtain ⟨hc, hf⟩ := bcell hb) | fail)
  have kL1 := (Bx.new w 26 #[.int .i64 st, .int .i64 z0, .int .i64 z1, .slice A n c]).call hb
  have hB1 : Below w.heap.size w w1 := ((Below.refl _ _).alloc (Nat.le_refl _) _).trans (hb.mono (by simp))
  have hE1 := hA.below hB1
  have hgt := kL1.lt
  clear hc hf hb
  go_loopw [4] (fun i wr => ∃ k : Nat, k ≤ n ∧ i = .int .i64 k ∧ Hid (ckEs st es = ckEs st (es.drop k)) ∧ Below w1.heap.size w1 wr) (fun i _ => n - (intOf i).toNat)
  case atStart => exact ⟨0, by omega, rfl, rfl, Below.refl _ _⟩
  case round =>
    obtain ⟨k, hk, rfl, hd, hB⟩ := hrel
    have kL := kL1.call hB
    have hBw := hB1.trans (hB.mono hB1.size)
    by_cases hkn : k < n
    · have hke : k < es.length := by rw [HL.out]; exact hkn
      obtain ⟨ad, rfl, hab, q0, q1, q2, q3, q4⟩ := (EvsAt.below hE1 (hB.mono hB1.size)).at_ hke
      have hds := ckEs_step (st := st) hke
      generalize es[k] = e at *
      obtain ⟨kd, sh, ld, c0, c1⟩ := e
      have HQ := Lib.hid (And.intro q0 (And.intro q1 (And.intro q2 (And.intro q3 q4))))
      have hab2 : (ad.add (k * 5)).block < wr.heap.size := by rw [add_block]; have := hBw.size; omega
      clear q0 q1 q2 q3 q4
      have hall : ckE st ⟨kd, sh, ld, c0, c1⟩ = 0 → ckEs st es = ckEs st (es.drop (k + 1)) := fun h => by rw [hd.out, hds, if_neg (by simpa using h)]
      have hne : ckE st ⟨kd, sh, ld, c0, c1⟩ ≠ 0 → ckL st z0 z1 es = ckE st ⟨kd, sh, ld, c0, c1⟩ := fun h => by rw [H1.out, hd.out, hds, if_pos (by simpa using h)]
      obtain ⟨r, hr⟩ : ∃ r, ckE st ⟨kd, sh, ld, c0, c1⟩ = r := ⟨_, rfl⟩
      rw [hr] at hall hne
      have HR := Lib.hid hr
      have HALL := Lib.hid hall
      have HNE := Lib.hid hne
      clear hds hr hall hne hd hA
      obtain ⟨l0, l1, l2, l3, lf, lz⟩ := kL.four
      go_upto_region 11 with fail
      clear l0 l1 l2 l3 lf lz
      refine AnyG.startC (by kernel_rfl) ?_
      refine AnyG.takeP (i := 1) (v := ?_) rfl (by kernel_rfl) (fun _ _ _ h => h) rfl ?_ ?_
      rotate_left
      · (intro w'; go_simp; try with_reducible rfl)
      try simp only [Act.put, List.getElem_toArray, List.getElem_cons_succ, List.getElem_cons_zero, List.setIfInBounds_toArray, List.set_cons_zero, List.set_cons_succ]
      refine AnyG.takeP (i := 3) (v := ?_) rfl (by kernel_rfl) (fun _ _ _ h => h) rfl ?_ ?_
      rotate_left
      · (intro w'; go_simp; try with_reducible rfl)
      try simp only [Act.put, List.getElem_toArray, List.getElem_cons_succ, List.getElem_cons_zero, List.setIfInBounds_toArray, List.set_cons_zero, List.set_cons_succ]
      refine AnyG.enter (fun w' : World => Below wr.heap.size wr w') (fun i => true) ?_
      have hS : (fun w' : World => Below wr.heap.size wr w') (World.drew _) := (Below.refl _ _).drew
      refine AnyG.takeC (i := 0) (v := ?_) rfl (by kernel_rfl) (fun _ _ _ h => h) rfl ?_ hS ?_
      rotate_left
      · (intro w' hSw; (try dsimp only at hSw); obtain ⟨l0, l1, l2, l3, lf, lz⟩ := (kL.call hSw).four; go_simp; try with_reducible rfl)
      try simp only [Act.put, List.getElem_toArray, List.getElem_cons_succ, List.getElem_cons_zero, List.setIfInBounds_toArray, List.set_cons_zero, List.set_cons_succ]
      refine AnyG.takeC (i := 2) (v := ?_) rfl (by kernel_rfl) (fun _ _ _ h => h) rfl ?_ hS ?_
      rotate_left
      · (intro w' hSw; (try dsimp only at hSw); obtain ⟨l0, l1, l2, l3, lf, lz⟩ := (kL.call hSw).four; go_simp; try with_reducible rfl)
      try simp only [Act.put, List.getElem_toArray, List.getElem_cons_succ, List.getElem_cons_zero, List.setIfInBounds_toArray, List.set_cons_zero, List.set_cons_succ]
      refine AnyG.takeC (i := 4) (v := ?_) rfl (by kernel_rfl) (fun _ _ _ h => h) rfl ?_ hS ?_
      rotate_left
      · (intro w' hSw; (try dsimp only at hSw); go_simp; try with_reducible rfl)
      try simp only [Act.put, List.getElem_toArray, List.getElem_cons_succ, List.getElem_cons_zero, List.setIfInBounds_toArray, List.set_cons_zero, List.set_cons_succ]
      refine AnyG.takeC (i := 5) (v := ?_) rfl (by kernel_rfl) (fun _ _ _ h => h) rfl ?_ hS ?_
      rotate_left
      · (intro w' hSw; (try dsimp only at hSw); have q0 := (hSw.cell (p := ad.add (k * 5)) hab2).trans HQ.out.1; have q1 := (hSw.cell (p := ⟨(ad.add (k * 5)).block, (ad.add (k * 5)).off + 1, none⟩) hab2).trans HQ.out.2.1; have q2 := (hSw.cell (p := ⟨(ad.add (k * 5)).block, (ad.add (k * 5)).off + 2, none⟩) hab2).trans HQ.out.2.2.1; have q3 := (hSw.cell (p := ⟨(ad.add (k * 5)).block, (ad.add (k * 5)).off + 3, none⟩) hab2).trans HQ.out.2.2.2.1; have q4 := (hSw.cell (p := ⟨(ad.add (k * 5)).block, (ad.add (k * 5)).off + 4, none⟩) hab2).trans HQ.out.2.2.2.2; go_simp; try with_reducible rfl)
      try simp only [Act.put, List.getElem_toArray, List.getElem_cons_succ, List.getElem_cons_zero, List.setIfInBounds_toArray, List.set_cons_zero, List.set_cons_succ]
      refine AnyG.one (i := 6) (by kernel_rfl) rfl rfl ?_
      go_simp
      refine (refEvent_any st z0 z1 _ n c kd sh ld c0 c1 _ hs1 hs2).mono ?_
      rintro er y6 ⟨rfl, hq6⟩
      rw [HR.out]
      have hT := hS.trans (hq6.mono hS.size)
      clear hS
      have hS := hT
      clear hT
      refine Onward.on hS (fun hS2 => ?_)
      clear hS
      have hS := hS2
      clear hS2
      try simp only [Act.put, List.getElem_toArray, List.getElem_cons_succ, List.getElem_cons_zero, List.setIfInBounds_toArray, List.set_cons_zero, List.set_cons_succ]
      refine AnyG.takeC (i := 7) (v := ?_) rfl (by kernel_rfl) (fun _ _ _ h => h) rfl ?_ hS ?_
      rotate_left
      · (intro w' hSw; (try dsimp only at hSw); go_simp; try with_reducible rfl)
      try simp only [Act.put, List.getElem_toArray, List.getElem_cons_succ, List.getElem_cons_zero, List.setIfInBounds_toArray, List.set_cons_zero, List.set_cons_succ]
      refine AnyG.done (by kernel_rfl) ?_ _
      go_simp
      have hB3 := hBw.trans (hS.mono hBw.size)
      have hB4 := hB.trans (hS.mono hB.size)
      by_cases hz0 : r = 0
      · have hz1 : (r != 0) = false := by simpa using hz0
        have hd' : Hid (ckEs st es = ckEs st (es.drop (k + 1))) := Lib.hid (HALL.out hz0)
        clear hz0
        go_wp2_with fail
        go_roundw
        case rel => exact ⟨k + 1, by omega, by go_num, hd', hB4⟩
        case measure => simp [intOf]; omega
      · have hz1 : (r != 0) = true := by simpa using hz0
        have hd' := Lib.hid (HNE.out hz0)
        clear hz0
        go_wp2_with fail
        go_ret
        first | exact ⟨ret_int hd'.out.symm, hB3⟩ | exact ⟨ret_int (by rw [← H1.out]; exact hd'.out.symm), hB3⟩
    · have hd' : Hid (ckL st z0 z1 es = 0) := by
        unfold Hid; rw [H1.out, hd.out, List.drop_eq_nil_of_le (by rw [HL.out]; omega)]; rfl
      obtain ⟨l0, l1, l2, l3, lf, lz⟩ := kL.four
      go_wp2_with fail
      go_ret
      first | exact ⟨ret_int hd'.out.symm, hBw⟩ | exact ⟨ret_int (by rw [← H1.out]; exact hd'.out.symm), hBw⟩
end Go.Proofs.Ytgbogdckmfencaa

/-! The reference of layer 1: Loads, may, none. -/
namespace Go.Proofs.Ytgbogdckmfencaa
open Go Go.RowKit
theorem agg2_eq {a b x y : Int} (h1 : a = x) (h2 : b = y) : Ending.returned (.agg #[.int .i64 a, .int .i64 b]) = Ending.returned (.agg #[.int .i64 x, .int .i64 y]) := by rw [h1, h2]
set_option maxRecDepth 100000 in
set_option maxHeartbeats 2000000 in
theorem refLoads_any (st z0 z1 : Int) (A : Option Addr) (n c : Nat) (es : List Ev) (i : Nat) (e : Ev) (z : Int) (w : World) (hl : es.length = n) (hn : n ≤ 14) (hA : EvsAt w w.heap.size A es) (he : es[i]? = some e) (ho : EvOk e) (hs1 : 1 ≤ st) (hs2 : st ≤ 100) (hz1 : -1000 ≤ z) (hz2 : z ≤ 1000) :
    Calls Try.prog 90 #[.agg #[.int .i64 st, .int .i64 z0, .int .i64 z1, .slice A n c], .int .i64 (i : Int), .int .i64 z] w fun r w' => r = .returned (.agg #[.int .i64 (ldRng st e z).1, .int .i64 (ldRng st e z).2]) ∧ Below w.heap.size w w' := by
  have hi : i < es.length := (List.getElem?_eq_some_iff.1 he).1
  have hin : i < n := by omega
  have hge : es[i] = e := (List.getElem?_eq_some_iff.1 he).2
  have hE := (EvsAt.alloc hA (Nat.le_refl _) (.cells #[.int .i64 st, .int .i64 z0, .int .i64 z1, .slice A n c] 26)).alloc (by simp) (.cells #[.int .i64 0, .int .i64 0] 23)
  obtain ⟨ad, rfl, hab, q0, q1, q2, q3, q4⟩ := hE.at_ hi
  rw [hge] at q0 q1 q2 q3 q4
  obtain ⟨kd, sh, ld, c0, c1⟩ := e
  obtain ⟨hkd, s1, s2, l1, l2, l3, -, -, -⟩ := ho
  dsimp only at *
  clear hl hi hge he hA hE
  have h0 : 0 ≤ st := by omega
  have hB2 := ((Below.refl w.heap.size w).alloc (Nat.le_refl _) (.cells #[.int .i64 st, .int .i64 z0, .int .i64 z1, .slice (some ad) n c] 26)).alloc (by simp) (.cells #[.int .i64 0, .int .i64 0] 23)
  have HB2 := Lib.hid hB2
  clear hB2
  rcases hkd with rfl | rfl | rfl
  · obtain rfl : ld = 0 := Classical.byContradiction fun h => by have := l3 h; omega
    go_enter Try.func90, Try.ntmps90
    go_wp2_with fail
    all_goals first
      | (refine bodyPost_ret (v := .agg #[.int .i64 (sh - st / 2 - z), .int .i64 (sh - st / 2 - z + st - 1)]) ?_ rfl ⟨agg2_eq ?_ ?_, ?_⟩
         · (simp [results, Try.results90, go_sem]; done)
         · unfold ldRng ldLo; dsimp only; first | (simp; omega) | omega
         · unfold ldRng ldHi; dsimp only; first | (simp; omega) | omega
         · repeat (first | exact Below.refl _ _ | refine Below.alloc ?_ (by simp; try omega) _ | refine Below.setCell ?_ (by simp) _))
      | (refine bodyPost_ret (v := .agg #[.int .i64 (sh - st / 2 - z), .int .i64 0]) ?_ rfl ⟨agg2_eq ?_ ?_, ?_⟩
         · (simp [results, Try.results90, go_sem]; done)
         · unfold ldRng ldLo; dsimp only; first | (simp; omega) | omega
         · unfold ldRng ldHi; dsimp only; first | (simp; omega) | omega
         · repeat (first | exact Below.refl _ _ | refine Below.alloc ?_ (by simp; try omega) _ | refine Below.setCell ?_ (by simp) _))
      | (refine bodyPost_ret (v := .agg #[.int .i64 0, .int .i64 (sh - st / 2 - z + st - 1)]) ?_ rfl ⟨agg2_eq ?_ ?_, ?_⟩
         · (simp [results, Try.results90, go_sem]; done)
         · unfold ldRng ldLo; dsimp only; first | (simp; omega) | omega
         · unfold ldRng ldHi; dsimp only; first | (simp; omega) | omega
         · repeat (first | exact Below.refl _ _ | refine Below.alloc ?_ (by simp; try omega) _ | refine Below.setCell ?_ (by simp) _))
      | (refine bodyPost_ret (v := .agg #[.int .i64 0, .int .i64 0]) ?_ rfl ⟨agg2_eq ?_ ?_, ?_⟩
         · (simp [results, Try.results90, go_sem]; done)
         · unfold ldRng ldLo; dsimp only; first | (simp; omega) | omega
         · unfold ldRng ldHi; dsimp only; first | (simp; omega) | omega
         · repeat (first | exact Below.refl _ _ | refine Below.alloc ?_ (by simp; try omega) _ | refine Below.setCell ?_ (by simp) _))
  · go_enter Try.func90, Try.ntmps90
    go_wp2_with fail
    all_goals first
      | (refine bodyPost_ret (v := .agg #[.int .i64 (sh - st / 2 - z), .int .i64 (sh - st / 2 - z + st - 1)]) ?_ rfl ⟨agg2_eq ?_ ?_, ?_⟩
         · (simp [results, Try.results90, go_sem]; done)
         · unfold ldRng ldLo; dsimp only; first | (simp; omega) | omega
         · unfold ldRng ldHi; dsimp only; first | (simp; omega) | omega
         · repeat (first | exact Below.refl _ _ | refine Below.alloc ?_ (by simp; try omega) _ | refine Below.setCell ?_ (by simp) _))
      | (refine bodyPost_ret (v := .agg #[.int .i64 (sh - st / 2 - z), .int .i64 ld]) ?_ rfl ⟨agg2_eq ?_ ?_, ?_⟩
         · (simp [results, Try.results90, go_sem]; done)
         · unfold ldRng ldLo; dsimp only; first | (simp; omega) | omega
         · unfold ldRng ldHi; dsimp only; first | (simp; omega) | omega
         · repeat (first | exact Below.refl _ _ | refine Below.alloc ?_ (by simp; try omega) _ | refine Below.setCell ?_ (by simp) _))
      | (refine bodyPost_ret (v := .agg #[.int .i64 ld, .int .i64 (sh - st / 2 - z + st - 1)]) ?_ rfl ⟨agg2_eq ?_ ?_, ?_⟩
         · (simp [results, Try.results90, go_sem]; done)
         · unfold ldRng ldLo; dsimp only; first | (simp; omega) | omega
         · unfold ldRng ldHi; dsimp only; first | (simp; omega) | omega
         · repeat (first | exact Below.refl _ _ | refine Below.alloc ?_ (by simp; try omega) _ | refine Below.setCell ?_ (by simp) _))
      | (refine bodyPost_ret (v := .agg #[.int .i64 ld, .int .i64 ld]) ?_ rfl ⟨agg2_eq ?_ ?_, ?_⟩
         · (simp [results, Try.results90, go_sem]; done)
         · unfold ldRng ldLo; dsimp only; first | (simp; omega) | omega
         · unfold ldRng ldHi; dsimp only; first | (simp; omega) | omega
         · repeat (first | exact Below.refl _ _ | refine Below.alloc ?_ (by simp; try omega) _ | refine Below.setCell ?_ (by simp) _))
  · obtain rfl : ld = 0 := Classical.byContradiction fun h => by have := l3 h; omega
    go_enter Try.func90, Try.ntmps90
    go_wp2_with fail
    all_goals first
      | (refine bodyPost_ret (v := .agg #[.int .i64 (sh - st / 2 - z), .int .i64 (sh - st / 2 - z + st - 1)]) ?_ rfl ⟨agg2_eq ?_ ?_, ?_⟩
         · (simp [results, Try.results90, go_sem]; done)
         · unfold ldRng ldLo; dsimp only; first | (simp; omega) | omega
         · unfold ldRng ldHi; dsimp only; first | (simp; omega) | omega
         · repeat (first | exact Below.refl _ _ | refine Below.alloc ?_ (by simp; try omega) _ | refine Below.setCell ?_ (by simp) _))
      | (refine bodyPost_ret (v := .agg #[.int .i64 (sh - st / 2 - z), .int .i64 60000]) ?_ rfl ⟨agg2_eq ?_ ?_, ?_⟩
         · (simp [results, Try.results90, go_sem]; done)
         · unfold ldRng ldLo; dsimp only; first | (simp; omega) | omega
         · unfold ldRng ldHi; dsimp only; first | (simp; omega) | omega
         · repeat (first | exact Below.refl _ _ | refine Below.alloc ?_ (by simp; try omega) _ | refine Below.setCell ?_ (by simp) _))
      | (refine bodyPost_ret (v := .agg #[.int .i64 0, .int .i64 (sh - st / 2 - z + st - 1)]) ?_ rfl ⟨agg2_eq ?_ ?_, ?_⟩
         · (simp [results, Try.results90, go_sem]; done)
         · unfold ldRng ldLo; dsimp only; first | (simp; omega) | omega
         · unfold ldRng ldHi; dsimp only; first | (simp; omega) | omega
         · repeat (first | exact Below.refl _ _ | refine Below.alloc ?_ (by simp; try omega) _ | refine Below.setCell ?_ (by simp) _))
      | (refine bodyPost_ret (v := .agg #[.int .i64 0, .int .i64 60000]) ?_ rfl ⟨agg2_eq ?_ ?_, ?_⟩
         · (simp [results, Try.results90, go_sem]; done)
         · unfold ldRng ldLo; dsimp only; first | (simp; omega) | omega
         · unfold ldRng ldHi; dsimp only; first | (simp; omega) | omega
         · repeat (first | exact Below.refl _ _ | refine Below.alloc ?_ (by simp; try omega) _ | refine Below.setCell ?_ (by simp) _))
end Go.Proofs.Ytgbogdckmfencaa

/-! Rows of rows of Booleans: what the reference knows; may, none. -/
namespace Go.Proofs.Ytgbogdckmfencaa
open Go Go.RowKit
/-- The cells of 401 Booleans. -/
def barr (g : Nat → Bool) : Array Value := Array.ofFn (n := 401) fun j => .bool (g j.val)
theorem barr_get (g : Nat → Bool) {i : Nat} (hi : i < 401) : (barr g)[i]? = some (.bool (g i)) := by
  unfold barr; rw [Array.getElem?_ofFn, dif_pos hi]
theorem barr_set (g : Nat → Bool) {i : Nat} (a : Bool) : (barr g).setIfInBounds i (.bool a) = barr (fun k => if k = i then a else g k) := by
  apply Array.ext
  · simp [barr]
  · intro j h1 h2
    have hj : j < 401 := by simpa [barr] using h2
    rw [Array.getElem_setIfInBounds (by simpa [barr] using hj)]
    by_cases e : i = j
    · subst e; simp [barr]
    · rw [if_neg e]; simp [barr, Ne.symm e]
theorem barr_made : madeCells #[.bool false] (401 * 1) = barr fun _ => false := by
  apply Array.ext
  · simp [madeCells, barr]
  · intro j h1 h2
    have : j % 1 = 0 := by omega
    simp only [madeCells, barr, Array.getElem_map, Array.getElem_range, Array.getElem_ofFn]
    simp [this]
attribute [irreducible] barr
theorem info4 : (Try.prog.info? 4).map (fun i => (i.zero, i.size, i.bytes)) = some (some (.bool false), 1, 1) := by kernel_rfl
theorem info126 : (Try.prog.info? 126).map (fun i => (i.zero, i.size, i.bytes)) = some (some (.slice none 0 0), 1, 24) := by kernel_rfl
theorem make_bools (w : World) : (Instr.makeSlice 126 (.int .i64 401) (.int .i64 401)).run Try.prog w = .ok (.slice (some ⟨w.heap.size, 0, none⟩) 401 401) (w.alloc (.cells (barr fun _ => false) 4)) := by
  obtain ⟨i0, hi, hz0, hz1, hz2⟩ := info_parts info4
  have h := run_make_n (P := Try.prog) 126 4 i0 _ Try.underlying126 hi hz0 401 (by rw [hz2]; omega) (by omega) w
  rw [show ((401 : Nat) : Int) = 401 from rfl] at h
  rw [h]
  have e : madeCells (Value.cells (.bool false)) (401 * i0.size) = barr fun _ => false := by rw [hz1]; exact barr_made
  rw [e]
/-- Which zeros events may have, in memory. -/
structure Grid (w : World) (b : Nat) (FA : Option Addr) (n : Nat) (q : Nat → Nat) (f : Nat → Nat → Bool) : Prop where
  out : 0 < n → ∃ o cur, FA = some ⟨o, 0, none⟩ ∧ b ≤ o ∧ Bx w o 126 cur ∧ ∀ i, i < n → cur[i]? = some (.slice (some ⟨q i, 0, none⟩) 401 401)
  rows : ∀ i, i < n → b ≤ q i ∧ Bx w (q i) 4 (barr (f i))
  inj : ∀ i j, i < n → j < n → q i = q j → i = j
section
variable {w x : World} {b n : Nat} {FA : Option Addr} {q : Nat → Nat} {f : Nat → Nat → Bool}
theorem Grid.bel (h : Grid w b FA n q f) (hb : Below w.heap.size w x) : Grid x b FA n q f := by
  refine ⟨fun h0 => ?_, fun i hi => ⟨(h.rows i hi).1, (h.rows i hi).2.call hb⟩, h.inj⟩
  obtain ⟨o, cur, h1, h2, h3, h4⟩ := h.out h0
  exact ⟨o, cur, h1, h2, h3.call hb, h4⟩
theorem Grid.alloc (h : Grid w b FA n q f) (o : Obj) : Grid (w.alloc o) b FA n q f := h.bel ((Below.refl _ _).alloc (Nat.le_refl _) o)
/-- A cell of a box of another type is stored. -/
theorem Grid.far (h : Grid w b FA n q f) {r t : Nat} {cs : Array Value} (k : Bx w r t cs) (h1 : t ≠ 126) (h2 : t ≠ 4) (j : Nat) (u : Value) : Grid (w.setCell ⟨r, j, none⟩ u) b FA n q f := by
  refine ⟨fun h0 => ?_, fun i hi => ⟨(h.rows i hi).1, (h.rows i hi).2.far (fun e => (h.rows i hi).2.ne k (Ne.symm h2) e) u⟩, h.inj⟩
  obtain ⟨o, cur, e1, e2, e3, e4⟩ := h.out h0
  exact ⟨o, cur, e1, e2, e3.far (fun e => e3.ne k (Ne.symm h1) e) u, e4⟩
/-- One of them is stored. -/
theorem Grid.put (h : Grid w b FA n q f) {i p : Nat} (hi : i < n) (a : Bool) : Grid (w.setCell ⟨q i, p, none⟩ (.bool a)) b FA n q (fun k j => if k = i ∧ j = p then a else f k j) := by
  refine ⟨fun h0 => ?_, fun k hk => ⟨(h.rows k hk).1, ?_⟩, h.inj⟩
  · obtain ⟨o, cur, e1, e2, e3, e4⟩ := h.out h0
    exact ⟨o, cur, e1, e2, e3.far (fun e => e3.ne (h.rows i hi).2 (by decide) e) _, e4⟩
  · by_cases e : k = i
    · subst e
      have := (h.rows k hk).2.set_ p (.bool a)
      rw [barr_set] at this
      simpa using this
    · have := (h.rows k hk).2.far (p := ⟨q i, p, none⟩) (fun e2 => e (h.inj _ _ hk hi e2)) (.bool a)
      simpa [e] using this
/-- The cells that are read for an event. -/
theorem Grid.at_ (h : Grid w b FA n q f) {i : Nat} (hi : i < n) : ∃ o, FA = some ⟨o, 0, none⟩ ∧ o < w.heap.size ∧ w.cell? ⟨o, i, none⟩ = some (.slice (some ⟨q i, 0, none⟩) 401 401) ∧ (∀ p, p < 401 → w.cell? ⟨q i, p, none⟩ = some (.bool (f i p))) ∧ (∀ p, w.frozen? ⟨q i, p, none⟩ = false) ∧ q i < w.heap.size := by
  obtain ⟨o, cur, e1, e2, e3, e4⟩ := h.out (by omega)
  refine ⟨o, e1, e3.lt, ?_, fun p hp => ?_, (h.rows i hi).2.free, (h.rows i hi).2.lt⟩
  · rw [e3.cell, e4 i hi]
  · rw [(h.rows i hi).2.cell, barr_get _ hp]
end
/-- Whether an event may have a zero. -/
def mayB (f : Nat → Nat → Bool) (i : Nat) (z : Int) : Bool := btwB z (-200) 200 && f i (z + 200).toNat
set_option maxRecDepth 100000 in
set_option maxHeartbeats 2000000 in
theorem may_any (b : Nat) (FA : Option Addr) (n FC : Nat) (q : Nat → Nat) (f : Nat → Nat → Bool) (i : Nat) (z : Int) (w : World) (hG : Grid w b FA n q f) (hn : n ≤ 14) (hi : i < n) (hz1 : -1000 ≤ z) (hz2 : z ≤ 1000) :
    Calls Try.prog 85 #[.agg #[.slice FA n FC], .int .i64 (i : Int), .int .i64 z] w fun e w' => e = .returned (.bool (mayB f i z)) ∧ Below w.heap.size w w' := by
  obtain ⟨o, rfl, ho, c0, c1, cf, hq⟩ := (hG.alloc (.cells #[.slice FA n FC] 96)).at_ hi
  have k0 := Bx.new w 96 #[.slice (some ⟨o, 0, none⟩) n FC]
  obtain ⟨x0, _, xz⟩ := k0.one
  by_cases hz : -200 ≤ z ∧ z ≤ 200
  · have e1 := btw_t hz
    obtain ⟨p, hp⟩ : ∃ p : Nat, z + 200 = p := ⟨(z + 200).toNat, by omega⟩
    have hp4 : p < 401 := by omega
    have hm : mayB f i z = f i p := by unfold mayB; rw [e1, Bool.true_and, show (z + 200).toNat = p by omega]
    have c2 := c1 p hp4
    rw [hm]
    obtain ⟨r, hr⟩ : ∃ r, f i p = r := ⟨_, rfl⟩
    rw [hr] at c2 ⊢
    have hzp : z = (p : Int) - 200 := by omega
    have hw : IntKind.i64.wrap ((p : Int) - 200 + 200) = p := by rw [show (p : Int) - 200 + 200 = p by omega]; exact IntWalk.i64_in _ (by omega)
    have hw2 : (p : Int) - 200 + 200 = p := by omega
    subst hzp
    clear hp hm c1 hr hG hz
    go_enter Try.func85, Try.ntmps85
    go_wp2_with (first | (go_at_call 64; refine (between_b _ _ _ _).mono ?_; rintro e w1 ⟨rfl, rfl⟩) | fail)
    all_goals go_ret
    all_goals exact ⟨rfl, (Below.refl _ _).alloc (Nat.le_refl _) _⟩
  · have e1 := btw_f hz
    have hm : mayB f i z = false := by unfold mayB; rw [e1]; rfl
    rw [hm]
    clear hm c1 hG hz
    go_enter Try.func85, Try.ntmps85
    go_wp2_with (first | (go_at_call 64; refine (between_b _ _ _ _).mono ?_; rintro e w1 ⟨rfl, rfl⟩) | fail)
    all_goals go_ret
    all_goals exact ⟨rfl, (Below.refl _ _).alloc (Nat.le_refl _) _⟩
end Go.Proofs.Ytgbogdckmfencaa

/-! none: what the reference knows at first. -/
namespace Go.Proofs.Ytgbogdckmfencaa
open Go Go.RowKit
def rowsOf (q : Nat → Nat) (i : Nat) : List Value := (List.range i).map fun j => Value.slice (some ⟨q j, 0, none⟩) 401 401
theorem rowsOf_succ (q : Nat → Nat) (i p : Nat) : rowsOf (fun k => if k = i then p else q k) (i + 1) = rowsOf q i ++ [Value.slice (some ⟨p, 0, none⟩) 401 401] := by
  unfold rowsOf
  rw [List.range_succ, List.map_append, List.map_singleton]
  congr 1
  · refine List.map_congr_left fun j hj => ?_
    rw [List.mem_range] at hj
    show Value.slice (some ⟨if j = i then p else q j, 0, none⟩) 401 401 = _
    rw [if_neg (by omega)]
  · simp
/-- Between two rounds of none's loop. -/
structure NI (w : World) (i : Nat) (FA : Option Addr) (FC : Nat) (q : Nat → Nat) (wr : World) : Prop where
  kK : Bx wr (w.heap.size + 1) 96 #[.slice FA i FC]
  k0 : Bx wr w.heap.size 96 #[.slice none 0 0]
  own : wr.ownsRow w.heap.size 126 1 (.slice FA i FC) i (rowsOf q i)
  rows : ∀ j, j < i → w.heap.size ≤ q j ∧ Bx wr (q j) 4 (barr fun _ => false)
  inj : ∀ j k, j < i → k < i → q j = q k → j = k
  hb : Below w.heap.size w wr
section
variable {w wr x : World} {i : Nat} {FA : Option Addr} {FC : Nat} {q : Nat → Nat}
theorem NI.bel (I : NI w i FA FC q wr) (h : Below wr.heap.size wr x) : NI w i FA FC q x :=
  ⟨I.kK.call h, I.k0.call h, own_bel I.own h, fun j hj => ⟨(I.rows j hj).1, (I.rows j hj).2.call h⟩, I.inj, I.hb.trans (h.mono I.hb.size)⟩
theorem NI.gr (I : NI w i FA FC q wr) (g : wr.grownBy x (Value.slice FA i FC).ownBlock) (o : x.ownsRow w.heap.size 126 1 (.slice FA i FC) i (rowsOf q i)) : NI w i FA FC q x :=
  ⟨I.kK.grown g (own_bx I.own I.kK (by decide)), I.k0.grown g (own_bx I.own I.k0 (by decide)), o, fun j hj => ⟨(I.rows j hj).1, (I.rows j hj).2.grown g (own_bx I.own (I.rows j hj).2 (by decide))⟩, I.inj, I.hb.grown g I.hb.size (fun k hk => (I.own.lt k hk).1)⟩
theorem NI.put {A2 : Option Addr} {C2 p : Nat} (I : NI w i FA FC q wr) (o : wr.ownsRow w.heap.size 126 1 (.slice A2 (i + 1) C2) (i + 1) (rowsOf q i ++ [.slice (some ⟨p, 0, none⟩) 401 401])) (kp : Bx wr p 4 (barr fun _ => false)) (hp : w.heap.size ≤ p) (hq : ∀ j, j < i → q j ≠ p) :
    NI w (i + 1) A2 C2 (fun k => if k = i then p else q k) (wr.setCell ⟨w.heap.size + 1, 0, none⟩ (.slice A2 (i + 1) C2)) := by
  refine ⟨by have := I.kK.set_ 0 (.slice A2 (i + 1) C2); simpa using this, I.k0.far (by simp) _, by rw [rowsOf_succ]; exact own_set o (own_bx o I.kK (by decide)) _, fun j hj => ?_, fun j k hj hk e => ?_, I.hb.setCell (by simp) _⟩
  · by_cases e : j = i
    · rw [if_pos e]; exact ⟨hp, kp.far (fun e => kp.ne I.kK (by decide) e) _⟩
    · rw [if_neg e]; exact ⟨(I.rows j (by omega)).1, (I.rows j (by omega)).2.far (fun e => (I.rows j (by omega)).2.ne I.kK (by decide) e) _⟩
  · try dsimp only at e
    by_cases e1 : j = i
    · by_cases e2 : k = i
      · omega
      · rw [if_pos e1, if_neg e2] at e; exact absurd e.symm (hq k (by omega))
    · by_cases e2 : k = i
      · rw [if_neg e1, if_pos e2] at e; exact absurd e (hq j (by omega))
      · rw [if_neg e1, if_neg e2] at e; exact I.inj j k (by omega) (by omega) e
theorem NI.grid (I : NI w i FA FC q wr) : Grid wr w.heap.size FA i q (fun _ _ => false) := by
  refine ⟨fun h0 => ?_, I.rows, I.inj⟩
  rcases I.own.2 with ⟨h, h1⟩ | ⟨g, cap, cur, h, hb, hg, hc, hm, hs, ht⟩
  · omega
  · simp only [Value.slice.injEq] at h
    refine ⟨g, cur, h.1, hb, hg, fun j hj => ?_⟩
    have h1 : (rowsOf q i)[j]? = some (.slice (some ⟨q j, 0, none⟩) 401 401) := by
      unfold rowsOf
      rw [List.getElem?_map, List.getElem?_range hj]
      rfl
    rw [← ht, List.getElem?_take, if_pos (by omega)] at h1
    rw [← Array.getElem?_toList]
    exact h1
end
set_option maxRecDepth 100000 in
set_option maxHeartbeats 4000000 in
theorem none_any (n : Nat) (w : World) (hn : n ≤ 14) : Calls Try.prog 89 #[.int .i64 (n : Int)] w fun e w' => (∃ (FA : Option Addr) (FC : Nat) (q : Nat → Nat), e = .returned (.agg #[.slice FA n FC]) ∧ Grid w' w.heap.size FA n q (fun _ _ => false)) ∧ Below w.heap.size w w' := by
  obtain ⟨i3, hi3, hz3, hs3, iy3⟩ := info_parts info126
  have I0 : NI w 0 none 0 (fun _ => 0) ((w.alloc (.cells #[.slice none 0 0] 96)).alloc (.cells #[.slice none 0 0] 96)) := ⟨Bx.at _ _ _ (by simp), (Bx.new w 96 _).alloc _, World.ownsRow_nil _ _ _ _, fun j hj => by omega, fun j k hj => by omega, ((Below.refl _ _).alloc (Nat.le_refl _) _).alloc (by simp) _⟩
  have H0 := Lib.hid I0
  clear I0
  go_enter Try.func89, Try.ntmps89
  go_wp2_with fail
  go_loopw [4] (fun v4 wr => ∃ (i : Nat) (FA : Option Addr) (FC : Nat) (q : Nat → Nat), i ≤ n ∧ v4 = .int .i64 i ∧ NI w i FA FC q wr) (fun v4 _ => n - (intOf v4).toNat)
  case atStart => exact ⟨0, none, 0, _, by omega, rfl, H0.out⟩
  case round =>
    clear H0
    obtain ⟨i, FA, FC, q, hi, rfl, I⟩ := hrel
    by_cases hin : i < n
    · go_upto_region 5 with fail
      refine AnyG.startC (by kernel_rfl) ?_
      refine AnyG.takeP (i := 0) (v := ?_) rfl (by kernel_rfl) (fun _ _ _ h => h) rfl ?_ ?_
      rotate_left
      · (intro w'; go_simp; try with_reducible rfl)
      try simp only [Act.put, List.getElem_toArray, List.getElem_cons_succ, List.getElem_cons_zero, List.setIfInBounds_toArray, List.set_cons_zero, List.set_cons_succ]
      refine AnyG.enter (fun w' : World => NI w i FA FC q w' ∧ wr.heap.size ≤ w'.heap.size) (fun i => i != 6) ?_
      have hS : (fun w' : World => NI w i FA FC q w' ∧ wr.heap.size ≤ w'.heap.size) (wr.drew) := ⟨I.bel (Below.refl _ _).drew, by simp⟩
      try dsimp only at hS
      obtain ⟨y0, hy0⟩ : ∃ y, wr.drew = y := ⟨_, rfl⟩
      rw [hy0] at hS ⊢
      clear hy0
      refine AnyG.takeC (i := 1) (v := ?_) rfl (by kernel_rfl) (fun _ _ _ h => h) rfl ?_ hS ?_
      rotate_left
      · (intro w' hSw; (try dsimp only at hSw); obtain ⟨a0, af, az⟩ := hSw.1.kK.one; go_simp; try with_reducible rfl)
      try simp only [Act.put, List.getElem_toArray, List.getElem_cons_succ, List.getElem_cons_zero, List.setIfInBounds_toArray, List.set_cons_zero, List.set_cons_succ]
      refine AnyG.one (i := 2) (by kernel_rfl) rfl rfl ?_
      have hmk := make_bools y0
      go_simp
      clear hmk
      have kp := Bx.new y0 4 (barr fun _ => false)
      have hI2 := hS.1.bel ((Below.refl _ y0).alloc (Nat.le_refl _) (.cells (barr fun _ => false) 4))
      have hp : w.heap.size ≤ y0.heap.size := hS.1.hb.size
      have hqp : ∀ j, j < i → q j ≠ y0.heap.size := fun j hj e => by have := (hS.1.rows j hj).2.lt; omega
      obtain ⟨y2, hy2⟩ : ∃ y, y0.alloc (.cells (barr fun _ => false) 4) = y := ⟨_, rfl⟩
      have hs2 : wr.heap.size ≤ y2.heap.size := by rw [← hy2]; simp; have := hS.2; omega
      rw [hy2] at kp hI2 ⊢
      clear hy2
      obtain ⟨p, ep⟩ : ∃ p, y0.heap.size = p := ⟨_, rfl⟩
      rw [ep] at kp hp hqp ⊢
      clear ep
      have hSn := And.intro hI2 hs2
      clear hS
      refine Onward.on hSn (fun hS => ?_)
      try dsimp only at hS
      clear hSn
      try simp only [Act.put, List.getElem_toArray, List.getElem_cons_succ, List.getElem_cons_zero, List.setIfInBounds_toArray, List.set_cons_zero, List.set_cons_succ]
      refine AnyG.one (i := 3) (by kernel_rfl) rfl rfl ?_
      clear hI2 hs2
      go_simp
      have kc := Bx.new y2 126 #[.slice (some ⟨p, 0, none⟩) 401 401]
      have hI3 := hS.1.bel ((Below.refl _ y2).alloc (Nat.le_refl _) (.cells #[.slice (some ⟨p, 0, none⟩) 401 401] 126))
      replace kp := kp.alloc (.cells #[.slice (some ⟨p, 0, none⟩) 401 401] 126)
      obtain ⟨y3, hy3⟩ : ∃ y, y2.alloc (.cells #[.slice (some ⟨p, 0, none⟩) 401 401] 126) = y := ⟨_, rfl⟩
      have hs3 : wr.heap.size ≤ y3.heap.size := by rw [← hy3]; simp; have := hS.2; omega
      rw [hy3] at kp kc hI3 ⊢
      clear hy3
      obtain ⟨c1, ec⟩ : ∃ p, y2.heap.size = p := ⟨_, rfl⟩
      rw [ec] at kc ⊢
      clear ec
      have hSn := And.intro hI3 hs3
      clear hS
      refine Onward.on hSn (fun hS => ?_)
      try dsimp only at hS
      clear hSn
      try simp only [Act.put, List.getElem_toArray, List.getElem_cons_succ, List.getElem_cons_zero, List.setIfInBounds_toArray, List.set_cons_zero, List.set_cons_succ]
      refine AnyG.one (i := 4) (by kernel_rfl) rfl rfl ?_
      clear hI3 hs3
      refine wp_app2 (.tmp 11) (.tmp 13) 94 rfl w.heap.size 126 i3 _ 1 24 Try.underlying94 hi3 hz3 hs3 iy3 rfl (by decide) (.slice FA i FC) i (rowsOf q i) (by simp [Act.eval]) hS.1.own ⟨c1, 0, none⟩ 1 1 [.slice (some ⟨p, 0, none⟩) 401 401] (by simp [Act.eval]) rfl (bx_news kc) (by simp [Value.oneCell']) (by unfold maxLen; omega) (by omega) hS.1.hb.size ?_
      intro v4 y4 o4 g4 x4 r4
      obtain ⟨A2, C2, rfl⟩ := own_shape o4
      have kp4 := kp.grown g4 (own_bx hS.1.own kp (by decide))
      have hI4 := hS.1.gr g4 x4
      have hs4 := Nat.le_trans hS.2 g4.size
      clear kp x4 r4 kc
      have hSn := And.intro hI4 hs4
      clear hS
      refine Onward.on hSn (fun hS => ?_)
      try dsimp only at hS
      clear hSn
      try simp only [Act.put, List.getElem_toArray, List.getElem_cons_succ, List.getElem_cons_zero, List.setIfInBounds_toArray, List.set_cons_zero, List.set_cons_succ]
      refine AnyG.takeC (i := 5) (v := ?_) rfl (by kernel_rfl) (fun _ _ _ h => h) rfl ?_ hS ?_
      rotate_left
      · (intro w' hSw; (try dsimp only at hSw); go_simp; try with_reducible rfl)
      try simp only [Act.put, List.getElem_toArray, List.getElem_cons_succ, List.getElem_cons_zero, List.setIfInBounds_toArray, List.set_cons_zero, List.set_cons_succ]
      refine AnyG.one (i := 6) (by kernel_rfl) rfl rfl ?_
      obtain ⟨a0, af, az⟩ := hS.1.kK.one
      go_simp
      have hI6 := hS.1.put o4 kp4 hp hqp
      refine Onward.last rfl ?_
      try simp only [Act.put, List.getElem_toArray, List.getElem_cons_succ, List.getElem_cons_zero, List.setIfInBounds_toArray, List.set_cons_zero, List.set_cons_succ]
      refine AnyG.done (by kernel_rfl) ?_ _
      go_simp
      clear a0 af az
      go_wp2_with fail
      go_roundw
      case rel => exact ⟨i + 1, A2, C2, _, by omega, by go_num, hI6⟩
      case measure => simp [intOf]; omega
    · obtain rfl : i = n := by omega
      obtain ⟨a0, af, az⟩ := I.kK.one
      obtain ⟨b0, bf, bz⟩ := I.k0.one
      go_wp2_with fail
      have hB := I.hb.setCell (p := ⟨w.heap.size, 0, none⟩) (Nat.le_refl _) (.slice FA i FC)
      have kz : Bx (wr.setCell ⟨w.heap.size, 0, none⟩ (.slice FA i FC)) w.heap.size 96 #[.slice FA i FC] := by have := I.k0.set_ 0 (.slice FA i FC); simpa using this
      obtain ⟨e0, ef, ez⟩ := kz.one
      refine bodyPost_ret (v := .agg #[.slice FA i FC]) (by simp [results, Try.results89, go_sem, e0]) rfl ⟨⟨FA, FC, q, rfl, I.grid.far I.k0 (by decide) (by decide) 0 _⟩, hB⟩
end Go.Proofs.Ytgbogdckmfencaa
