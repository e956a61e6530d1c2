/- The water over a sill; the moments at which it is looked at. -/
import Derived.Test.YtdlohfglmagneaaDoorAj
set_option linter.unusedSimpArgs false
set_option linter.unusedVariables false
namespace Go.Proofs.YtdlohfglmagneaaDoor
open Go Go.RowKit
def lvL (L : List Lv) (g : Bool) : List (Int × Int) := L.map fun l => (l.fr, if g then l.d1 else l.d0)
theorem dpt_take {L : List Lv} {g : Bool} {m : Int} {k : Nat} (hk : k < L.length) : dpt (lvL (L.take (k + 1)) g) m = if L[k].fr ≤ m then (if g then L[k].d1 else L[k].d0) else dpt (lvL (L.take k) g) m := by
  unfold dpt lvL
  rw [List.take_succ_eq_append_getElem hk, List.map_append, List.foldl_append]
  rfl
theorem own_one (w : World) (base : Nat) (e : TypeId) (u : Value) (hb : base ≤ w.heap.size) : (w.alloc (.cells #[u] e)).ownsRow base e 1 (.slice (some ⟨w.heap.size, 0, none⟩) 1 1) 1 [u] :=
  ⟨rfl, .inr ⟨w.heap.size, 1, #[u], rfl, hb, heap_alloc_new w _, Nat.le_refl _, by unfold maxLen; omega, rfl, rfl⟩⟩
def momL (L : List Lv) (c : Int) : List Int := if 2880 < c then [] else c :: (L.filter fun l => decide (c < l.fr)).map (·.fr)
theorem mts_momL (L : List Lv) (g : Bool) (c : Int) : mts (lvL L g) c = momL L c := by
  unfold mts momL lvL
  split
  · rfl
  · rw [List.filter_map, List.map_map]; rfl
theorem momF_take {L : List Lv} {c : Int} {k : Nat} (hk : k < L.length) : ((L.take (k + 1)).filter fun l => decide (c < l.fr)).map (·.fr) = ((L.take k).filter fun l => decide (c < l.fr)).map (·.fr) ++ (if c < L[k].fr then [L[k].fr] else []) := by
  rw [List.take_succ_eq_append_getElem hk, List.filter_append, List.map_append]
  by_cases h : c < L[k].fr
  · rw [if_pos h, List.filter_cons_of_pos (by simpa using h)]; rfl
  · rw [if_neg h, List.filter_cons_of_neg (by simpa using h)]; rfl
set_option maxHeartbeats 800000 in
theorem depth_any (g : Bool) (A : Option Addr) (n c : Nat) (L : List Lv) (m : Int) (w : World) (hn : n ≤ 1000) (hl : L.length = n) (hA : Sl w w.heap.size 3 A (L.map lvr)) :
    Calls Tryd.prog 43 #[.agg #[.bool g, .slice A n c], .int .i64 m] w fun e w' => e = .returned (.int .i64 (dpt (lvL L g) m)) ∧ Below w.heap.size w w' := by
  have HL := Lib.hid hl
  have k0 := Bx.new w 102 #[.bool g, .slice A n c]
  have B0 := (Below.refl w.heap.size w).alloc (Nat.le_refl _) (.cells #[.bool g, .slice A n c] 102)
  clear hl
  go_enter Tryd.func43, Tryd.ntmps43
  go_wp2_with fail
  go_loopw [5, 11] (fun d i wr => ∃ k : Nat, i = .int .i64 k ∧ k ≤ n ∧ d = .int .i64 (dpt (lvL (L.take k) g) m) ∧ Bx wr w.heap.size 102 #[.bool g, .slice A n c] ∧ Below w.heap.size w wr) (fun _ i _ => n - (intOf i).toNat)
  case atStart => exact ⟨0, rfl, by omega, by simp [lvL, dpt], k0, B0⟩
  case round =>
    obtain ⟨k, rfl, hk, rfl, kx, hB⟩ := hrel
    obtain ⟨D, hD⟩ : ∃ D, dpt (lvL (L.take k) g) m = D := ⟨_, rfl⟩
    rw [hD]
    have HD := Lib.hid hD
    clear hD
    by_cases hkn : k < n
    · have hke : k < L.length := by rw [HL.out]; exact hkn
      obtain ⟨ad, rfl, _, q0, q1, q2⟩ := lv_at ((hA.below hB).more hB.size) hke
      have hds := dpt_take (g := g) (m := m) hke
      rw [HD.out] at hds
      generalize L[k] = b at *
      have k1 := kx.alloc (.cells #[.int .i64 b.fr, .int .i64 b.d0, .int .i64 b.d1] 32)
      have kb := Bx.new wr 32 #[.int .i64 b.fr, .int .i64 b.d0, .int .i64 b.d1]
      have B1 := hB.alloc hB.size (.cells #[.int .i64 b.fr, .int .i64 b.d0, .int .i64 b.d1] 32)
      obtain ⟨s0, s1, sf, sz⟩ := k1.two
      by_cases hf : b.fr ≤ m
      · have hd' : Hid (dpt (lvL (L.take (k + 1)) g) m = if g = true then b.d1 else b.d0) := Lib.hid (by rw [hds, if_pos hf])
        have hdf : decide (b.fr ≤ m) = true := by simpa using hf
        clear hds
        go_wp2_with (first | (go_at_call 52; refine (helps_any g _ _ _).mono ?_; rintro e w1 ⟨rfl, hb⟩; rw [← hd'.out]) | fail)
        go_roundw
        case rel => exact ⟨k + 1, by go_num, by omega, rfl, k1.call hb, B1.trans (hb.mono B1.size)⟩
        case measure => simp [intOf]; omega
      · have hd' : Hid (dpt (lvL (L.take (k + 1)) g) m = D) := Lib.hid (by rw [hds, if_neg hf])
        have hdf : decide (b.fr ≤ m) = false := by simpa using hf
        clear hds
        go_wp2_with fail
        go_roundw
        case rel => exact ⟨k + 1, by go_num, by omega, by rw [hd'.out], k1, B1⟩
        case measure => simp [intOf]; omega
    · go_wp2_with fail
      go_ret
      exact ⟨ret_int (by rw [← HD.out, List.take_of_length_le (by rw [HL.out]; omega)]), hB⟩
set_option maxRecDepth 100000 in
set_option maxHeartbeats 2000000 in
theorem moments_any (t0 t1 : Int) (A : Option Addr) (n c : Nat) (L : List Lv) (m : Int) (w : World) (hn : n ≤ 1000) (hl : L.length = n) (hA : Sl w w.heap.size 3 A (L.map lvr)) :
    Calls Tryd.prog 44 #[.agg #[.int .i64 t0, .int .i64 t1, .slice A n c], .int .i64 m] w fun e w' => (∃ X x, e = .returned (.slice X (momL L m).length x) ∧ Sl w' w'.heap.size 1 X (inr (momL L m))) ∧ Below w.heap.size w w' := by
  have HL := Lib.hid hl
  have k0 := Bx.new w 35 #[.int .i64 t0, .int .i64 t1, .slice A n c]
  have B0 := (Below.refl w.heap.size w).alloc (Nat.le_refl _) (.cells #[.int .i64 t0, .int .i64 t1, .slice A n c] 35)
  clear hl
  obtain ⟨i3, hi3, hz3, hs3, iy3⟩ := info_parts info3'
  by_cases hm : 2880 < m
  · have hdm : decide (2880 < m) = true := by simpa using hm
    have HM : Hid (momL L m = []) := Lib.hid (by unfold momL; rw [if_pos hm])
    go_enter Tryd.func44, Tryd.ntmps44
    go_wp2_with fail
    go_ret
    exact ⟨⟨none, 0, by rw [HM.out]; rfl, by rw [HM.out]; exact Sl.nil _ _ _ _⟩, B0⟩
  have hdm : decide (2880 < m) = false := by simpa using hm
  have HM : Hid (momL L m = m :: (L.filter fun l => decide (m < l.fr)).map (·.fr)) := Lib.hid (by unfold momL; rw [if_neg hm])
  go_enter Tryd.func44, Tryd.ntmps44
  go_wp2_with fail
  have O0 := (own_one (w.alloc (.cells #[.int .i64 t0, .int .i64 t1, .slice A n c] 35)) w.heap.size 3 (.int .i64 m) (by simp))
  have B1 := B0.alloc (by simp) (.cells #[.int .i64 m] 3)
  simp only [World.size_alloc] at O0
  go_loopw [5, 15] (fun lv i wr => ∃ (k q : Nat) (X : Option Addr) (x : Nat) (F : List Int), i = .int .i64 k ∧ k ≤ n ∧ lv = .slice X q x ∧ Hid (q = 1 + F.length ∧ F.length ≤ k ∧ F = ((L.take k).filter fun l => decide (m < l.fr)).map (·.fr)) ∧ wr.ownsRow w.heap.size 3 1 (.slice X q x) q (inr (m :: F)).flatten ∧ Below w.heap.size w wr) (fun _ i _ => n - (intOf i).toNat)
  case atStart => exact ⟨0, 1, some ⟨w.heap.size + 1, 0, none⟩, 1, [], rfl, by omega, rfl, Lib.hid ⟨rfl, Nat.le_refl _, by simp⟩, O0, B1⟩
  case round =>
    clear O0 B1
    obtain ⟨k, q, X, x, F, rfl, hk, rfl, hF, OO, hB⟩ := hrel
    by_cases hkn : k < n
    · have hke : k < L.length := by rw [HL.out]; exact hkn
      obtain ⟨ad, rfl, _, q0, q1, q2⟩ := lv_at ((hA.below hB).more hB.size) hke
      have hds := momF_take (c := m) hke
      generalize L[k] = b at *
      have B1 := hB.alloc hB.size (.cells #[.int .i64 b.fr, .int .i64 b.d0, .int .i64 b.d1] 32)
      have O1 := own_bel OO ((Below.refl wr.heap.size wr).alloc (Nat.le_refl _) (.cells #[.int .i64 b.fr, .int .i64 b.d0, .int .i64 b.d1] 32))
      have kb := Bx.new wr 32 #[.int .i64 b.fr, .int .i64 b.d0, .int .i64 b.d1]
      obtain ⟨s0, s1, s2, sf, sz⟩ := kb.three'
      have hq := hF.out
      have hq1 : q ≤ 1001 := by omega
      by_cases hf : m < b.fr
      · have hF' : Hid (q + 1 = 1 + (F ++ [b.fr]).length ∧ (F ++ [b.fr]).length ≤ k + 1 ∧ F ++ [b.fr] = ((L.take (k + 1)).filter fun l => decide (m < l.fr)).map (·.fr)) := Lib.hid ⟨by simp; omega, by simp; omega, by rw [hds, if_pos hf, ← hq.2.2]⟩
        have hdf : decide (m < b.fr) = true := by simpa using hf
        have O2 := own_bel O1 ((Below.refl _ _).alloc (Nat.le_refl _) (.cells #[.int .i64 b.fr] 3))
        have kn := Bx.at (wr.alloc (.cells #[.int .i64 b.fr, .int .i64 b.d0, .int .i64 b.d1] 32)) 3 #[.int .i64 b.fr] (n := wr.heap.size + 1) (by simp)
        have hsz := hB.size
        clear hds hq
        go_wp2_with (first
          | (at_builtin; refine wpList_append_own _ rfl (.tmp 23) (.tmp 26) 39 rfl w.heap.size 3 i3 _ 1 8 Tryd.underlying39 hi3 hz3 hs3 iy3 rfl (by decide) (.slice X q x) q (inr (m :: F)).flatten rfl O2 ⟨wr.heap.size + 1, 0, none⟩ 1 1 [.int .i64 b.fr] rfl rfl (bx_news kn) (by simp [Value.oneCell']) (by unfold maxLen; omega) (by omega) (by simp; omega) ?_; intro v' w' o1 o2 o3; obtain ⟨X', x', rfl⟩ := own_shape o1)
          | fail)
        go_roundw
        case rel =>
          refine ⟨k + 1, q + 1, X', x', F ++ [b.fr], by go_num, by omega, rfl, hF', ?_, ?_⟩
          · have e : (inr (m :: (F ++ [b.fr]))).flatten = (inr (m :: F)).flatten ++ [.int .i64 b.fr] := by rw [← inr_snoc]; rfl
            rw [e]; exact o1
          · exact (B1.alloc B1.size (.cells #[.int .i64 b.fr] 3)).grown o2 (by simp; omega) (fun k e => (O2.lt k e).1)
        case measure => simp [intOf]; omega
      · have hF' : Hid (q = 1 + F.length ∧ F.length ≤ k + 1 ∧ F = ((L.take (k + 1)).filter fun l => decide (m < l.fr)).map (·.fr)) := Lib.hid ⟨hq.1, by omega, by rw [hds, if_neg hf, List.append_nil, ← hq.2.2]⟩
        have hdf : decide (m < b.fr) = false := by simpa using hf
        clear hds hq
        go_wp2_with fail
        go_roundw
        case rel => exact ⟨k + 1, q, X, x, F, by go_num, by omega, rfl, hF', O1, B1⟩
        case measure => simp [intOf]; omega
    · go_wp2_with fail
      go_ret
      obtain ⟨h1, h2, h3⟩ := hF.out
      rw [List.take_of_length_le (by rw [HL.out]; omega)] at h3
      have hm2 : momL L m = m :: F := by rw [HM.out, h3]
      refine ⟨⟨X, x, ?_, ?_⟩, hB⟩
      · rw [hm2, show (m :: F).length = q by simp; omega]; rfl
      · rw [hm2]; exact own_inr OO (by simp; omega)
end Go.Proofs.YtdlohfglmagneaaDoor

/-! A barge under way: needs, load. -/
namespace Go.Proofs.YtdlohfglmagneaaDoor
open Go Go.RowKit
def bcs (v : Vg) (p : Vp) (g : Bool) (d0 d1 : Int) : Array Value := #[.int .i64 v.li, .int .i64 v.un, .int .i64 v.tr, .slice p.HA p.hn p.hc, .int .i64 v.le, .slice p.SA p.sn p.sc, .slice p.LA p.ln p.lc, .bool g, .int .i64 d0, .int .i64 d1]
theorem bcs_def (v : Vg) (p : Vp) (g : Bool) (d0 d1 : Int) : bcs v p g d0 d1 = #[.int .i64 v.li, .int .i64 v.un, .int .i64 v.tr, .slice p.HA p.hn p.hc, .int .i64 v.le, .slice p.SA p.sn p.sc, .slice p.LA p.ln p.lc, .bool g, .int .i64 d0, .int .i64 d1] := rfl
theorem Bx.ten {w : World} {g : Nat} {t : TypeId} {a b c d e f h i j k : Value} (q : Bx w g t #[a, b, c, d, e, f, h, i, j, k]) : w.cell? ⟨g, 0, none⟩ = some a ∧ w.cell? ⟨g, 1, none⟩ = some b ∧ w.cell? ⟨g, 2, none⟩ = some c ∧ w.cell? ⟨g, 3, none⟩ = some d ∧ w.cell? ⟨g, 4, none⟩ = some e ∧ w.cell? ⟨g, 5, none⟩ = some f ∧ w.cell? ⟨g, 6, none⟩ = some h ∧ w.cell? ⟨g, 7, none⟩ = some i ∧ w.cell? ⟨g, 8, none⟩ = some j ∧ w.cell? ⟨g, 9, none⟩ = some k ∧ (∀ o, w.frozen? ⟨g, o, none⟩ = false) ∧ g < w.heap.size :=
  ⟨q.cell 0, q.cell 1, q.cell 2, q.cell 3, q.cell 4, q.cell 5, q.cell 6, q.cell 7, q.cell 8, q.cell 9, q.free, q.lt⟩
set_option maxRecDepth 100000 in
set_option maxHeartbeats 1000000 in
theorem needs_any (v : Vg) (p : Vp) (g : Bool) (d0 d1 : Int) (w : World) (hu : 0 ≤ v.un ∧ v.un ≤ 5000) (h0 : 0 ≤ d0 ∧ d0 ≤ 305000000) (h1 : 0 ≤ d1 ∧ d1 ≤ 305000000) : Calls Tryd.prog 46 #[.agg (bcs v p g d0 d1)] w fun e w' => e = .returned (.int .i64 (max d0 d1 + 1000 * v.un)) ∧ Below w.heap.size w w' := by
  have k1 := Bx.new w 71 (bcs v p g d0 d1)
  have B0 := (Below.refl w.heap.size w).alloc (Nat.le_refl _) (.cells (bcs v p g d0 d1) 71)
  have wt : IntKind.i64.wrap (1000 * v.un) = 1000 * v.un := IntWalk.i64_in _ (by omega)
  have ws : IntKind.i64.wrap (max d0 d1 + 1000 * v.un) = max d0 d1 + 1000 * v.un := IntWalk.i64_in _ (by omega)
  rw [bcs_def] at k1 B0 ⊢
  obtain ⟨V, hV⟩ : ∃ V, w.alloc (.cells #[.int .i64 v.li, .int .i64 v.un, .int .i64 v.tr, .slice p.HA p.hn p.hc, .int .i64 v.le, .slice p.SA p.sn p.sc, .slice p.LA p.ln p.lc, .bool g, .int .i64 d0, .int .i64 d1] 71) = V := ⟨_, rfl⟩
  rw [hV] at k1 B0
  have HV := Lib.hid hV
  clear hV
  go_enter Tryd.func46, Tryd.ntmps46
  go_wp2_with fail
  rw [HV.out]
  refine AnyG.startC (by kernel_rfl) ?_
  refine AnyG.takeP (i := 0) (v := ?_) rfl (by kernel_rfl) (fun _ _ _ h => h) rfl ?_ ?_
  rotate_left
  · (intro w'; go_simp; try with_reducible rfl)
  try simp only [Act.put, List.getElem_toArray, List.getElem_cons_succ, List.getElem_cons_zero, List.setIfInBounds_toArray, List.set_cons_zero, List.set_cons_succ]
  refine AnyG.takeP (i := 1) (v := ?_) rfl (by kernel_rfl) (fun _ _ _ h => h) rfl ?_ ?_
  rotate_left
  · (intro w'; go_simp; try with_reducible rfl)
  try simp only [Act.put, List.getElem_toArray, List.getElem_cons_succ, List.getElem_cons_zero, List.setIfInBounds_toArray, List.set_cons_zero, List.set_cons_succ]
  refine AnyG.takeP (i := 3) (v := ?_) rfl (by kernel_rfl) (fun _ _ _ h => h) rfl ?_ ?_
  rotate_left
  · (intro w'; go_simp; try with_reducible rfl)
  try simp only [Act.put, List.getElem_toArray, List.getElem_cons_succ, List.getElem_cons_zero, List.setIfInBounds_toArray, List.set_cons_zero, List.set_cons_succ]
  refine AnyG.takeP (i := 4) (v := ?_) rfl (by kernel_rfl) (fun _ _ _ h => h) rfl ?_ ?_
  rotate_left
  · (intro w'; go_simp; try with_reducible rfl)
  try simp only [Act.put, List.getElem_toArray, List.getElem_cons_succ, List.getElem_cons_zero, List.setIfInBounds_toArray, List.set_cons_zero, List.set_cons_succ]
  refine AnyG.takeP (i := 8) (v := ?_) rfl (by kernel_rfl) (fun _ _ _ h => h) rfl ?_ ?_
  rotate_left
  · (intro w'; go_simp; try with_reducible rfl)
  try simp only [Act.put, List.getElem_toArray, List.getElem_cons_succ, List.getElem_cons_zero, List.setIfInBounds_toArray, List.set_cons_zero, List.set_cons_succ]
  refine AnyG.takeP (i := 9) (v := ?_) rfl (by kernel_rfl) (fun _ _ _ h => h) rfl ?_ ?_
  rotate_left
  · (intro w'; go_simp; try with_reducible rfl)
  try simp only [Act.put, List.getElem_toArray, List.getElem_cons_succ, List.getElem_cons_zero, List.setIfInBounds_toArray, List.set_cons_zero, List.set_cons_succ]
  refine AnyG.enter (fun w' : World => Bx w' w.heap.size 71 #[.int .i64 v.li, .int .i64 v.un, .int .i64 v.tr, .slice p.HA p.hn p.hc, .int .i64 v.le, .slice p.SA p.sn p.sc, .slice p.LA p.ln p.lc, .bool g, .int .i64 d0, .int .i64 d1] ∧ Below w.heap.size w w') (fun i => i != 13) ?_
  have hS : (fun w' : World => Bx w' w.heap.size 71 #[.int .i64 v.li, .int .i64 v.un, .int .i64 v.tr, .slice p.HA p.hn p.hc, .int .i64 v.le, .slice p.SA p.sn p.sc, .slice p.LA p.ln p.lc, .bool g, .int .i64 d0, .int .i64 d1] ∧ Below w.heap.size w w') (World.drew _) := ⟨k1.drew, B0.drew⟩
  refine AnyG.takeC (i := 2) (v := ?_) rfl (by kernel_rfl) (fun _ _ _ h => h) rfl ?_ hS ?_
  rotate_left
  · (intro w' hSw; (try dsimp only at hSw); obtain ⟨x0, x1, x2, x3, x4, x5, x6, x7, x8, x9, xf, xz⟩ := hSw.1.ten; go_simp; try with_reducible rfl)
  try simp only [Act.put, List.getElem_toArray, List.getElem_cons_succ, List.getElem_cons_zero, List.setIfInBounds_toArray, List.set_cons_zero, List.set_cons_succ]
  refine AnyG.takeC (i := 5) (v := ?_) rfl (by kernel_rfl) (fun _ _ _ h => h) rfl ?_ hS ?_
  rotate_left
  · (intro w' hSw; (try dsimp only at hSw); obtain ⟨x0, x1, x2, x3, x4, x5, x6, x7, x8, x9, xf, xz⟩ := hSw.1.ten; go_simp; try with_reducible rfl)
  try simp only [Act.put, List.getElem_toArray, List.getElem_cons_succ, List.getElem_cons_zero, List.setIfInBounds_toArray, List.set_cons_zero, List.set_cons_succ]
  refine AnyG.takeC (i := 10) (v := ?_) rfl (by kernel_rfl) (fun _ _ _ h => h) rfl ?_ hS ?_
  rotate_left
  · (intro w' hSw; (try dsimp only at hSw); obtain ⟨x0, x1, x2, x3, x4, x5, x6, x7, x8, x9, xf, xz⟩ := hSw.1.ten; go_simp; try with_reducible rfl)
  try simp only [Act.put, List.getElem_toArray, List.getElem_cons_succ, List.getElem_cons_zero, List.setIfInBounds_toArray, List.set_cons_zero, List.set_cons_succ]
  refine AnyG.takeC (i := 11) (v := ?_) rfl (by kernel_rfl) (fun _ _ _ h => h) rfl ?_ hS ?_
  rotate_left
  · (intro w' hSw; (try dsimp only at hSw); go_simp; try with_reducible rfl)
  try simp only [Act.put, List.getElem_toArray, List.getElem_cons_succ, List.getElem_cons_zero, List.setIfInBounds_toArray, List.set_cons_zero, List.set_cons_succ]
  refine AnyG.one (i := 6) (by kernel_rfl) rfl rfl ?_
  have kb := Bx.new V.drew 3 #[.int .i64 d1]
  go_simp
  refine Onward.on ⟨hS.1.alloc _, hS.2.alloc hS.2.size _⟩ (fun hS2 => ?_)
  clear hS
  have hS := hS2
  clear hS2
  try simp only [Act.put, List.getElem_toArray, List.getElem_cons_succ, List.getElem_cons_zero, List.setIfInBounds_toArray, List.set_cons_zero, List.set_cons_succ]
  refine AnyG.one (i := 7) (by kernel_rfl) rfl rfl ?_
  go_simp
  refine (greatest_any d0 d1 _ _ _ _ kb).mono ?_
  rintro e6 y6 ⟨rfl, hb6⟩
  refine Onward.on ⟨hS.1.call hb6, hS.2.trans (hb6.mono hS.2.size)⟩ (fun hS2 => ?_)
  clear hS
  have hS := hS2
  clear hS2
  try simp only [Act.put, List.getElem_toArray, List.getElem_cons_succ, List.getElem_cons_zero, List.setIfInBounds_toArray, List.set_cons_zero, List.set_cons_succ]
  refine AnyG.takeC (i := 12) (v := ?_) rfl (by kernel_rfl) (fun _ _ _ h => h) rfl ?_ hS ?_
  rotate_left
  · (intro w' hSw; (try dsimp only at hSw); go_simp; try with_reducible rfl)
  try simp only [Act.put, List.getElem_toArray, List.getElem_cons_succ, List.getElem_cons_zero, List.setIfInBounds_toArray, List.set_cons_zero, List.set_cons_succ]
  refine AnyG.one (i := 13) (by kernel_rfl) rfl rfl ?_
  go_simp
  refine Onward.last rfl ?_
  try simp only [Act.put, List.getElem_toArray, List.getElem_cons_succ, List.getElem_cons_zero, List.setIfInBounds_toArray, List.set_cons_zero, List.set_cons_succ]
  refine AnyG.done (by kernel_rfl) ?_ _
  go_simp
  go_wp2_with fail
  go_ret
  exact ⟨rfl, hS.2⟩
set_option maxRecDepth 100000 in
set_option maxHeartbeats 4000000 in
theorem load_any (v : Vg) (p : Vp) (A : Option Addr) (sn sc : Nat) (s : List Int) (g : Bool) (w : World) (ho : v.Ok) (hV : VoyAt w w.heap.size v p) (hS0 : Sl w w.heap.size 1 A (inr s)) (hl : s.length = sn) (hsn : sn ≤ p.ln) (hh : Held v s) :
    Calls Tryd.prog 24 #[.agg (vcs v p), .slice A sn sc, .bool g] w fun e w' => e = .returned (.agg (bcs v p g (deepB v (abd v.ls s) g) (deepS v (abd v.ls s) g))) ∧ Below w.heap.size w w' := by
  obtain ⟨Z, hZ⟩ : ∃ Z : Array Value, (#[.int .i64 0, .int .i64 0, .int .i64 0, .slice none 0 0, .int .i64 0, .slice none 0 0, .slice none 0 0, .bool false, .int .i64 0, .int .i64 0] : Array Value) = Z := ⟨_, rfl⟩
  have k3 := (Bx.new w 26 (vcs v p)).alloc (.cells Z 71)
  have k6 := Bx.at (w.alloc (.cells (vcs v p) 26)) 71 Z (n := w.heap.size + 1) (by simp)
  have B0 := ((Below.refl w.heap.size w).alloc (Nat.le_refl _) (.cells (vcs v p) 26)).alloc (by simp) (.cells Z 71)
  obtain ⟨d0, hd0⟩ : ∃ d, deepB v (abd v.ls s) g = d := ⟨_, rfl⟩
  obtain ⟨d1, hd1⟩ : ∃ d, deepS v (abd v.ls s) g = d := ⟨_, rfl⟩
  have HD0 := Lib.hid hd0
  have HD1 := Lib.hid hd1
  clear hd0 hd1
  rw [vcs_def] at k3 k6 B0 ⊢
  subst hZ
  obtain ⟨V, hVV⟩ : ∃ V, (w.alloc (.cells #[.int .i64 v.li, .int .i64 v.un, .int .i64 v.tr, .slice p.HA p.hn p.hc, .int .i64 v.le, .slice p.SA p.sn p.sc, .slice p.LA p.ln p.lc] 26)).alloc (.cells #[.int .i64 0, .int .i64 0, .int .i64 0, .slice none 0 0, .int .i64 0, .slice none 0 0, .slice none 0 0, .bool false, .int .i64 0, .int .i64 0] 71) = V := ⟨_, rfl⟩
  rw [hVV] at k3 k6 B0
  have HV := Lib.hid hVV
  clear hVV
  go_enter Tryd.func24, Tryd.ntmps24
  go_wp2_with fail
  rw [HV.out]
  refine AnyG.startC (by kernel_rfl) ?_
  refine AnyG.takeP (i := 1) (v := ?_) rfl (by kernel_rfl) (fun _ _ _ h => h) rfl ?_ ?_
  rotate_left
  · (intro w'; go_simp; try with_reducible rfl)
  try simp only [Act.put, List.getElem_toArray, List.getElem_cons_succ, List.getElem_cons_zero, List.setIfInBounds_toArray, List.set_cons_zero, List.set_cons_succ]
  refine AnyG.takeP (i := 3) (v := ?_) rfl (by kernel_rfl) (fun _ _ _ h => h) rfl ?_ ?_
  rotate_left
  · (intro w'; go_simp; try with_reducible rfl)
  try simp only [Act.put, List.getElem_toArray, List.getElem_cons_succ, List.getElem_cons_zero, List.setIfInBounds_toArray, List.set_cons_zero, List.set_cons_succ]
  refine AnyG.takeP (i := 4) (v := ?_) rfl (by kernel_rfl) (fun _ _ _ h => h) rfl ?_ ?_
  rotate_left
  · (intro w'; go_simp; try with_reducible rfl)
  try simp only [Act.put, List.getElem_toArray, List.getElem_cons_succ, List.getElem_cons_zero, List.setIfInBounds_toArray, List.set_cons_zero, List.set_cons_succ]
  refine AnyG.enter (fun w' : World => Bx w' w.heap.size 26 #[.int .i64 v.li, .int .i64 v.un, .int .i64 v.tr, .slice p.HA p.hn p.hc, .int .i64 v.le, .slice p.SA p.sn p.sc, .slice p.LA p.ln p.lc] ∧ Bx w' (w.heap.size + 1) 71 #[.int .i64 0, .int .i64 0, .int .i64 0, .slice none 0 0, .int .i64 0, .slice none 0 0, .slice none 0 0, .bool false, .int .i64 0, .int .i64 0] ∧ Below w.heap.size w w') (fun i => i != 7) ?_
  have hS : (fun w' : World => Bx w' w.heap.size 26 #[.int .i64 v.li, .int .i64 v.un, .int .i64 v.tr, .slice p.HA p.hn p.hc, .int .i64 v.le, .slice p.SA p.sn p.sc, .slice p.LA p.ln p.lc] ∧ Bx w' (w.heap.size + 1) 71 #[.int .i64 0, .int .i64 0, .int .i64 0, .slice none 0 0, .int .i64 0, .slice none 0 0, .slice none 0 0, .bool false, .int .i64 0, .int .i64 0] ∧ Below w.heap.size w w') (World.drew _) := ⟨k3.drew, k6.drew, B0.drew⟩
  refine AnyG.takeC (i := 0) (v := ?_) rfl (by kernel_rfl) (fun _ _ _ h => h) rfl ?_ hS ?_
  rotate_left
  · (intro w' hSw; (try dsimp only at hSw); obtain ⟨x0, x1, x2, x3, x4, x5, x6, xf, xz⟩ := hSw.1.seven; go_simp; try with_reducible rfl)
  try simp only [Act.put, List.getElem_toArray, List.getElem_cons_succ, List.getElem_cons_zero, List.setIfInBounds_toArray, List.set_cons_zero, List.set_cons_succ]
  refine AnyG.takeC (i := 2) (v := ?_) rfl (by kernel_rfl) (fun _ _ _ h => h) rfl ?_ hS ?_
  rotate_left
  · (intro w' hSw; (try dsimp only at hSw); obtain ⟨x0, x1, x2, x3, x4, x5, x6, xf, xz⟩ := hSw.1.seven; go_simp; try with_reducible rfl)
  try simp only [Act.put, List.getElem_toArray, List.getElem_cons_succ, List.getElem_cons_zero, List.setIfInBounds_toArray, List.set_cons_zero, List.set_cons_succ]
  refine AnyG.one (i := 5) (by kernel_rfl) rfl rfl ?_
  go_simp
  refine (depths_any v p A sn sc s g _ ho (hV.call hS.2.2) (hS0.call hS.2.2) hl hsn hh).mono ?_
  rintro e6 y6 ⟨rfl, hb6⟩
  rw [HD0.out, HD1.out]
  refine Onward.on ⟨hS.1.call hb6, hS.2.1.call hb6, hS.2.2.trans (hb6.mono hS.2.2.size)⟩ (fun hS2 => ?_)
  clear hS
  have hS := hS2
  clear hS2
  try simp only [Act.put, List.getElem_toArray, List.getElem_cons_succ, List.getElem_cons_zero, List.setIfInBounds_toArray, List.set_cons_zero, List.set_cons_succ]
  refine AnyG.takeC (i := 6) (v := ?_) rfl (by kernel_rfl) (fun _ _ _ h => h) rfl ?_ hS ?_
  rotate_left
  · (intro w' hSw; (try dsimp only at hSw); go_simp; try with_reducible rfl)
  try simp only [Act.put, List.getElem_toArray, List.getElem_cons_succ, List.getElem_cons_zero, List.setIfInBounds_toArray, List.set_cons_zero, List.set_cons_succ]
  refine AnyG.one (i := 7) (by kernel_rfl) rfl rfl ?_
  obtain ⟨x0, x1, x2, x3, x4, x5, x6, x7, x8, x9, xf, xz⟩ := hS.2.1.ten
  have hE := hS
  go_simp
  clear x0 x1 x2 x3 x4 x5 x6 x7 x8 x9 xf xz
  refine Onward.last rfl ?_
  try simp only [Act.put, List.getElem_toArray, List.getElem_cons_succ, List.getElem_cons_zero, List.setIfInBounds_toArray, List.set_cons_zero, List.set_cons_succ]
  refine AnyG.done (by kernel_rfl) ?_ _
  go_wp2_with fail
  have fA := ((((((((((hE.2.1.set_ 0 (.int .i64 v.li)).set_ 1 (.int .i64 v.un)).set_ 2 (.int .i64 v.tr)).set_ 3 (.slice p.HA p.hn p.hc)).set_ 4 (.int .i64 v.le)).set_ 5 (.slice p.SA p.sn p.sc)).set_ 6 (.slice p.LA p.ln p.lc)).set_ 7 (.bool g)).set_ 8 (.int .i64 d0)).set_ 9 (.int .i64 d1))
  have fB := ((((((((((hE.2.2.setCell (p := ⟨w.heap.size + 1, 0, none⟩) (by simp) (.int .i64 v.li)).setCell (p := ⟨w.heap.size + 1, 1, none⟩) (by simp) (.int .i64 v.un)).setCell (p := ⟨w.heap.size + 1, 2, none⟩) (by simp) (.int .i64 v.tr)).setCell (p := ⟨w.heap.size + 1, 3, none⟩) (by simp) (.slice p.HA p.hn p.hc)).setCell (p := ⟨w.heap.size + 1, 4, none⟩) (by simp) (.int .i64 v.le)).setCell (p := ⟨w.heap.size + 1, 5, none⟩) (by simp) (.slice p.SA p.sn p.sc)).setCell (p := ⟨w.heap.size + 1, 6, none⟩) (by simp) (.slice p.LA p.ln p.lc)).setCell (p := ⟨w.heap.size + 1, 7, none⟩) (by simp) (.bool g)).setCell (p := ⟨w.heap.size + 1, 8, none⟩) (by simp) (.int .i64 d0)).setCell (p := ⟨w.heap.size + 1, 9, none⟩) (by simp) (.int .i64 d1))
  obtain ⟨Z, hZ⟩ : ∃ Z, ((((((((((y6.setCell ⟨w.heap.size + 1, 0, none⟩ (.int .i64 v.li)).setCell ⟨w.heap.size + 1, 1, none⟩ (.int .i64 v.un)).setCell ⟨w.heap.size + 1, 2, none⟩ (.int .i64 v.tr)).setCell ⟨w.heap.size + 1, 3, none⟩ (.slice p.HA p.hn p.hc)).setCell ⟨w.heap.size + 1, 4, none⟩ (.int .i64 v.le)).setCell ⟨w.heap.size + 1, 5, none⟩ (.slice p.SA p.sn p.sc)).setCell ⟨w.heap.size + 1, 6, none⟩ (.slice p.LA p.ln p.lc)).setCell ⟨w.heap.size + 1, 7, none⟩ (.bool g)).setCell ⟨w.heap.size + 1, 8, none⟩ (.int .i64 d0)).setCell ⟨w.heap.size + 1, 9, none⟩ (.int .i64 d1)) = Z := ⟨_, rfl⟩
  rw [hZ] at fA fB ⊢
  simp only [List.setIfInBounds_toArray, List.set_cons_zero, List.set_cons_succ] at fA
  obtain ⟨r0, r1, r2, r3, r4, r5, r6, r7, r8, r9, rf, rz⟩ := fA.ten
  exact bodyPost_ret (v := .agg #[.int .i64 v.li, .int .i64 v.un, .int .i64 v.tr, .slice p.HA p.hn p.hc, .int .i64 v.le, .slice p.SA p.sn p.sc, .slice p.LA p.ln p.lc, .bool g, .int .i64 d0, .int .i64 d1]) (by simp [results, Tryd.results24, go_sem, r0, r1, r2, r3, r4, r5, r6, r7, r8, r9]) rfl ⟨by rw [bcs_def, HD0.out, HD1.out], fB⟩
end Go.Proofs.YtdlohfglmagneaaDoor
