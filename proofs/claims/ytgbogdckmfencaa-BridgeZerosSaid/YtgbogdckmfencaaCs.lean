/- bridge.CheckSlip returns what ckS says, for all arguments. -/
import Derived.Test.YtgbogdckmfencaaWm
import Derived.Test.YtgbogdckmfencaaCk
import Derived.Test.YtgbogdckmfencaaMath
import Derived.Test.YtgbogdckmfencaaReg
set_option linter.unusedSimpArgs false
set_option linter.unusedVariables false
namespace Go.Proofs.Ytgbogdckmfencaa
open Go.RowKit Go.Maps
attribute [local go_sem ↓] Go.wp_at_zero Go.wp_at_succ
theorem Bx.six {w : World} {g t : Nat} {x y z u v s : Value} (h : Bx w g t #[x, y, z, u, v, s]) : w.cell? ⟨g, 0, none⟩ = some x ∧ w.cell? ⟨g, 1, none⟩ = some y ∧ w.cell? ⟨g, 2, none⟩ = some z ∧ w.cell? ⟨g, 3, none⟩ = some u ∧ w.cell? ⟨g, 4, none⟩ = some v ∧ w.cell? ⟨g, 5, none⟩ = some s ∧ (∀ o, w.frozen? ⟨g, o, none⟩ = false) ∧ g < w.heap.size := ⟨h.cell 0, h.cell 1, h.cell 2, h.cell 3, h.cell 4, h.cell 5, h.free, h.lt⟩
def seatB (s : Int) : Bool := decide (0 ≤ s ∧ s ≤ 2)
def ckS (st z0 z1 : Int) (es : List Ev) (F B : List Int) (fs bs d0 d1 : Int) : Int :=
  if ckL st z0 z1 es ≠ 0 then ckL st z0 z1 es else if ckA es F ≠ 0 then ckA es F else if ckA es B ≠ 0 then ckA es B else if overlap F B = true then 4 else if seatB fs = false ∨ seatB bs = false then 8 else ckR d0 d1 0 200
theorem isSeat_b (s : Int) (w : World) : Calls Try.prog 77 #[.int .i64 s] w fun e w' => e = .returned (.bool (seatB s)) ∧ w = w' := isSeat_any s w
set_option maxRecDepth 100000 in
set_option maxHeartbeats 2000000 in
theorem checkSlip_any (st z0 z1 : Int) (A : Option Addr) (n c : Nat) (es : List Ev) (FA : Option Addr) (fn fc : Nat) (BA : Option Addr) (bn bc : Nat) (fs bs d0 d1 : Int) (F B : List Int) (w : World)
    (hn : n ≤ 9223372036854775807) (hl : es.length = n) (hA : EvsAt w w.heap.size A es) (hfn : fn ≤ 9223372036854775807) (hbn : bn ≤ 9223372036854775807) (hf : F.length = fn) (hb : B.length = bn) (hF : Sl w w.heap.size 1 FA (ints F)) (hBs : Sl w w.heap.size 1 BA (ints B)) :
    Calls Try.prog 33 #[.agg #[.int .i64 st, .int .i64 z0, .int .i64 z1, .slice A n c], .agg #[.slice FA fn fc, .slice BA bn bc, .int .i64 fs, .int .i64 bs, .int .i64 d0, .int .i64 d1]] w fun e w' => e = .returned (.int .i64 (ckS st z0 z1 es F B fs bs d0 d1)) ∧ Below w.heap.size w w' := by
  have HL := Lib.hid hl
  have HF := Lib.hid hf
  have HBn := Lib.hid hb
  clear hl hf hb
  by_cases hc : ckL st z0 z1 es = 0
  case neg =>
    have hc1 : (ckL st z0 z1 es != 0) = true := by simpa using hc
    have H1 : Hid (ckS st z0 z1 es F B fs bs d0 d1 = ckL st z0 z1 es) := by unfold Hid ckS; rw [if_pos hc]
    clear hc
    go_enter Try.func33, Try.ntmps33
    go_wp2_with (first
    | (go_at_call 22; refine (check_any st z0 z1 A n c es _ hn HL.out ((hA.below (((Below.refl _ _).alloc (Nat.le_refl _) _).alloc (by simp) _)).more (by simp; omega))).mono ?_; rintro e w1 ⟨rfl, hb⟩; have p1 := ((Bx.new w 26 #[.int .i64 st, .int .i64 z0, .int .i64 z1, .slice A n c]).alloc (.cells #[.slice FA fn fc, .slice BA bn bc, .int .i64 fs, .int .i64 bs, .int .i64 d0, .int .i64 d1] 50)).call hb; have p2 := (Bx.at (w.alloc (.cells #[.int .i64 st, .int .i64 z0, .int .i64 z1, .slice A n c] 26)) 50 #[.slice FA fn fc, .slice BA bn bc, .int .i64 fs, .int .i64 bs, .int .i64 d0, .int .i64 d1] (n := w.heap.size + 1) (by simp)).call hb; have hB := (((Below.refl w.heap.size w).alloc (Nat.le_refl _) (.cells #[.int .i64 st, .int .i64 z0, .int .i64 z1, .slice A n c] 26)).alloc (by simp) (.cells #[.slice FA fn fc, .slice BA bn bc, .int .i64 fs, .int .i64 bs, .int .i64 d0, .int .i64 d1] 50)).trans (hb.mono (by simp; omega)); clear hb; obtain ⟨a0, a1, a2, a3, af, az⟩ := p1.four; obtain ⟨s0, s1, s2, s3, s4, s5, sf, sz⟩ := p2.six; try rw [HC.out])
    | (go_at_call_of 75 (Value.slice FA fn fc); refine (checkAxles_any st z0 z1 A n c es FA fn fc F _ h14 HL.out ((hA.below hB).more hB.size) hfn HF.out ((hF.below hB).more hB.size)).mono ?_; rintro e w2 ⟨rfl, hb⟩; replace p1 := p1.call hb; replace p2 := p2.call hb; replace hB := hB.trans (hb.mono hB.size); clear hb; obtain ⟨a0, a1, a2, a3, af, az⟩ := p1.four; obtain ⟨s0, s1, s2, s3, s4, s5, sf, sz⟩ := p2.six; try rw [HFz.out])
    | (go_at_call_of 75 (Value.slice BA bn bc); refine (checkAxles_any st z0 z1 A n c es BA bn bc B _ h14 HL.out ((hA.below hB).more hB.size) hbn HBn.out ((hBs.below hB).more hB.size)).mono ?_; rintro e w3 ⟨rfl, hb⟩; replace p1 := p1.call hb; replace p2 := p2.call hb; replace hB := hB.trans (hb.mono hB.size); clear hb; obtain ⟨a0, a1, a2, a3, af, az⟩ := p1.four; obtain ⟨s0, s1, s2, s3, s4, s5, sf, sz⟩ := p2.six; try rw [HBz.out]))
    go_ret
    exact ⟨ret_int H1.out.symm, hB⟩
  have h14 : n ≤ 14 := by rw [← HL.out]; exact (ckL_zero hc).n
  have H0 : Hid (ckS st z0 z1 es F B fs bs d0 d1 = if ckA es F ≠ 0 then ckA es F else if ckA es B ≠ 0 then ckA es B else if overlap F B = true then 4 else if seatB fs = false ∨ seatB bs = false then 8 else ckR d0 d1 0 200) := by unfold Hid ckS; rw [if_neg (fun h => h hc)]
  have HC := Lib.hid hc
  clear hc
  by_cases hfz : ckA es F = 0
  case neg =>
    have hc1 : (ckA es F != 0) = true := by simpa using hfz
    have H1 : Hid (ckS st z0 z1 es F B fs bs d0 d1 = ckA es F) := by unfold Hid; rw [H0.out, if_pos hfz]
    clear hfz H0
    go_enter Try.func33, Try.ntmps33
    go_wp2_with (first
    | (go_at_call 22; refine (check_any st z0 z1 A n c es _ hn HL.out ((hA.below (((Below.refl _ _).alloc (Nat.le_refl _) _).alloc (by simp) _)).more (by simp; omega))).mono ?_; rintro e w1 ⟨rfl, hb⟩; have p1 := ((Bx.new w 26 #[.int .i64 st, .int .i64 z0, .int .i64 z1, .slice A n c]).alloc (.cells #[.slice FA fn fc, .slice BA bn bc, .int .i64 fs, .int .i64 bs, .int .i64 d0, .int .i64 d1] 50)).call hb; have p2 := (Bx.at (w.alloc (.cells #[.int .i64 st, .int .i64 z0, .int .i64 z1, .slice A n c] 26)) 50 #[.slice FA fn fc, .slice BA bn bc, .int .i64 fs, .int .i64 bs, .int .i64 d0, .int .i64 d1] (n := w.heap.size + 1) (by simp)).call hb; have hB := (((Below.refl w.heap.size w).alloc (Nat.le_refl _) (.cells #[.int .i64 st, .int .i64 z0, .int .i64 z1, .slice A n c] 26)).alloc (by simp) (.cells #[.slice FA fn fc, .slice BA bn bc, .int .i64 fs, .int .i64 bs, .int .i64 d0, .int .i64 d1] 50)).trans (hb.mono (by simp; omega)); clear hb; obtain ⟨a0, a1, a2, a3, af, az⟩ := p1.four; obtain ⟨s0, s1, s2, s3, s4, s5, sf, sz⟩ := p2.six; try rw [HC.out])
    | (go_at_call_of 75 (Value.slice FA fn fc); refine (checkAxles_any st z0 z1 A n c es FA fn fc F _ h14 HL.out ((hA.below hB).more hB.size) hfn HF.out ((hF.below hB).more hB.size)).mono ?_; rintro e w2 ⟨rfl, hb⟩; replace p1 := p1.call hb; replace p2 := p2.call hb; replace hB := hB.trans (hb.mono hB.size); clear hb; obtain ⟨a0, a1, a2, a3, af, az⟩ := p1.four; obtain ⟨s0, s1, s2, s3, s4, s5, sf, sz⟩ := p2.six; try rw [HFz.out])
    | (go_at_call_of 75 (Value.slice BA bn bc); refine (checkAxles_any st z0 z1 A n c es BA bn bc B _ h14 HL.out ((hA.below hB).more hB.size) hbn HBn.out ((hBs.below hB).more hB.size)).mono ?_; rintro e w3 ⟨rfl, hb⟩; replace p1 := p1.call hb; replace p2 := p2.call hb; replace hB := hB.trans (hb.mono hB.size); clear hb; obtain ⟨a0, a1, a2, a3, af, az⟩ := p1.four; obtain ⟨s0, s1, s2, s3, s4, s5, sf, sz⟩ := p2.six; try rw [HBz.out]))
    go_ret
    exact ⟨ret_int H1.out.symm, hB⟩
  have HFz := Lib.hid hfz
  clear hfz
  by_cases hbz : ckA es B = 0
  case neg =>
    have hc1 : (ckA es B != 0) = true := by simpa using hbz
    have H1 : Hid (ckS st z0 z1 es F B fs bs d0 d1 = ckA es B) := by unfold Hid; rw [H0.out, if_neg (fun h => h HFz.out), if_pos hbz]
    clear hbz H0
    go_enter Try.func33, Try.ntmps33
    go_wp2_with (first
    | (go_at_call 22; refine (check_any st z0 z1 A n c es _ hn HL.out ((hA.below (((Below.refl _ _).alloc (Nat.le_refl _) _).alloc (by simp) _)).more (by simp; omega))).mono ?_; rintro e w1 ⟨rfl, hb⟩; have p1 := ((Bx.new w 26 #[.int .i64 st, .int .i64 z0, .int .i64 z1, .slice A n c]).alloc (.cells #[.slice FA fn fc, .slice BA bn bc, .int .i64 fs, .int .i64 bs, .int .i64 d0, .int .i64 d1] 50)).call hb; have p2 := (Bx.at (w.alloc (.cells #[.int .i64 st, .int .i64 z0, .int .i64 z1, .slice A n c] 26)) 50 #[.slice FA fn fc, .slice BA bn bc, .int .i64 fs, .int .i64 bs, .int .i64 d0, .int .i64 d1] (n := w.heap.size + 1) (by simp)).call hb; have hB := (((Below.refl w.heap.size w).alloc (Nat.le_refl _) (.cells #[.int .i64 st, .int .i64 z0, .int .i64 z1, .slice A n c] 26)).alloc (by simp) (.cells #[.slice FA fn fc, .slice BA bn bc, .int .i64 fs, .int .i64 bs, .int .i64 d0, .int .i64 d1] 50)).trans (hb.mono (by simp; omega)); clear hb; obtain ⟨a0, a1, a2, a3, af, az⟩ := p1.four; obtain ⟨s0, s1, s2, s3, s4, s5, sf, sz⟩ := p2.six; try rw [HC.out])
    | (go_at_call_of 75 (Value.slice FA fn fc); refine (checkAxles_any st z0 z1 A n c es FA fn fc F _ h14 HL.out ((hA.below hB).more hB.size) hfn HF.out ((hF.below hB).more hB.size)).mono ?_; rintro e w2 ⟨rfl, hb⟩; replace p1 := p1.call hb; replace p2 := p2.call hb; replace hB := hB.trans (hb.mono hB.size); clear hb; obtain ⟨a0, a1, a2, a3, af, az⟩ := p1.four; obtain ⟨s0, s1, s2, s3, s4, s5, sf, sz⟩ := p2.six; try rw [HFz.out])
    | (go_at_call_of 75 (Value.slice BA bn bc); refine (checkAxles_any st z0 z1 A n c es BA bn bc B _ h14 HL.out ((hA.below hB).more hB.size) hbn HBn.out ((hBs.below hB).more hB.size)).mono ?_; rintro e w3 ⟨rfl, hb⟩; replace p1 := p1.call hb; replace p2 := p2.call hb; replace hB := hB.trans (hb.mono hB.size); clear hb; obtain ⟨a0, a1, a2, a3, af, az⟩ := p1.four; obtain ⟨s0, s1, s2, s3, s4, s5, sf, sz⟩ := p2.six; try rw [HBz.out]))
    go_ret
    exact ⟨ret_int H1.out.symm, hB⟩
  have HBz := Lib.hid hbz
  clear hbz
  go_enter Try.func33, Try.ntmps33
  go_wp2_with (first
    | (go_at_call 22; refine (check_any st z0 z1 A n c es _ hn HL.out ((hA.below (((Below.refl _ _).alloc (Nat.le_refl _) _).alloc (by simp) _)).more (by simp; omega))).mono ?_; rintro e w1 ⟨rfl, hb⟩; have p1 := ((Bx.new w 26 #[.int .i64 st, .int .i64 z0, .int .i64 z1, .slice A n c]).alloc (.cells #[.slice FA fn fc, .slice BA bn bc, .int .i64 fs, .int .i64 bs, .int .i64 d0, .int .i64 d1] 50)).call hb; have p2 := (Bx.at (w.alloc (.cells #[.int .i64 st, .int .i64 z0, .int .i64 z1, .slice A n c] 26)) 50 #[.slice FA fn fc, .slice BA bn bc, .int .i64 fs, .int .i64 bs, .int .i64 d0, .int .i64 d1] (n := w.heap.size + 1) (by simp)).call hb; have hB := (((Below.refl w.heap.size w).alloc (Nat.le_refl _) (.cells #[.int .i64 st, .int .i64 z0, .int .i64 z1, .slice A n c] 26)).alloc (by simp) (.cells #[.slice FA fn fc, .slice BA bn bc, .int .i64 fs, .int .i64 bs, .int .i64 d0, .int .i64 d1] 50)).trans (hb.mono (by simp; omega)); clear hb; obtain ⟨a0, a1, a2, a3, af, az⟩ := p1.four; obtain ⟨s0, s1, s2, s3, s4, s5, sf, sz⟩ := p2.six; try rw [HC.out])
    | (go_at_call_of 75 (Value.slice FA fn fc); refine (checkAxles_any st z0 z1 A n c es FA fn fc F _ h14 HL.out ((hA.below hB).more hB.size) hfn HF.out ((hF.below hB).more hB.size)).mono ?_; rintro e w2 ⟨rfl, hb⟩; replace p1 := p1.call hb; replace p2 := p2.call hb; replace hB := hB.trans (hb.mono hB.size); clear hb; obtain ⟨a0, a1, a2, a3, af, az⟩ := p1.four; obtain ⟨s0, s1, s2, s3, s4, s5, sf, sz⟩ := p2.six; try rw [HFz.out])
    | (go_at_call_of 75 (Value.slice BA bn bc); refine (checkAxles_any st z0 z1 A n c es BA bn bc B _ h14 HL.out ((hA.below hB).more hB.size) hbn HBn.out ((hBs.below hB).more hB.size)).mono ?_; rintro e w3 ⟨rfl, hb⟩; replace p1 := p1.call hb; replace p2 := p2.call hb; replace hB := hB.trans (hb.mono hB.size); clear hb; obtain ⟨a0, a1, a2, a3, af, az⟩ := p1.four; obtain ⟨s0, s1, s2, s3, s4, s5, sf, sz⟩ := p2.six; try rw [HBz.out]))
  obtain ⟨f1, f2, f3, f4⟩ := ckA_zero HFz.out
  obtain ⟨b1, b2, b3, b4⟩ := ckA_zero HBz.out
  have hless := Lib.hid (wmap_less F B (nodup_of_lt f4) (nodup_of_lt b4))
  have hF1 : ∀ x ∈ F, 0 ≤ x ∧ x ≤ 14 := fun x hx => by have := f3 x hx; have := HL.out; omega
  have hB1 : ∀ x ∈ B, 0 ≤ x ∧ x ≤ 14 := fun x hx => by have := b3 x hx; have := HL.out; omega
  have hfn4 : fn ≤ 4 := by have := HF.out; omega
  have hbn4 : bn ≤ 4 := by have := HBn.out; omega
  have hs4 : size (wmap F B) ≤ 8 := by rw [wmap_size F B (nodup_of_lt f4) (nodup_of_lt b4)]; have := List.length_filter_le (fun x => !F.contains x) B; omega
  clear f1 f2 f3 f4 b1 b2 b3 b4
  have HF1 := Lib.hid hF1
  have HB1 := Lib.hid hB1
  clear hF1 hB1
  have hwr : IntKind.i64.wrap ((fn : Int) + (bn : Int)) = (fn : Int) + (bn : Int) := IntWalk.i64_in _ (by omega)
  refine AnyG.start (fun w' : World => w'.cell? ⟨w.heap.size + 1, 0, none⟩ = some (.slice FA fn fc) ∧ w'.cell? ⟨w.heap.size + 1, 1, none⟩ = some (.slice BA bn bc) ∧ w'.cell? ⟨w.heap.size + 1, 2, none⟩ = some (.int .i64 fs) ∧ w'.cell? ⟨w.heap.size + 1, 3, none⟩ = some (.int .i64 bs) ∧ w'.cell? ⟨w.heap.size + 1, 4, none⟩ = some (.int .i64 d0) ∧ w'.cell? ⟨w.heap.size + 1, 5, none⟩ = some (.int .i64 d1)) (fun _ => true) (by kernel_rfl) ?_
  have hS : (fun w' : World => w'.cell? ⟨w.heap.size + 1, 0, none⟩ = some (.slice FA fn fc) ∧ w'.cell? ⟨w.heap.size + 1, 1, none⟩ = some (.slice BA bn bc) ∧ w'.cell? ⟨w.heap.size + 1, 2, none⟩ = some (.int .i64 fs) ∧ w'.cell? ⟨w.heap.size + 1, 3, none⟩ = some (.int .i64 bs) ∧ w'.cell? ⟨w.heap.size + 1, 4, none⟩ = some (.int .i64 d0) ∧ w'.cell? ⟨w.heap.size + 1, 5, none⟩ = some (.int .i64 d1)) (World.drew w3) := ⟨s0, s1, s2, s3, s4, s5⟩
  refine AnyG.take (i := 0) (v := ?_) rfl (by kernel_rfl) (fun _ _ _ h => h) rfl ?_ hS ?_
  rotate_left
  · (intro w' hSw; (try dsimp only at hSw); go_split_ands; go_simp; try with_reducible rfl)
  try simp only [Act.put, List.setIfInBounds_toArray, List.set_cons_zero, List.set_cons_succ]
  refine AnyG.take (i := 3) (v := ?_) rfl (by kernel_rfl) (fun _ _ _ h => h) rfl ?_ hS ?_
  rotate_left
  · (intro w' hSw; (try dsimp only at hSw); go_split_ands; go_simp; try with_reducible rfl)
  try simp only [Act.put, List.setIfInBounds_toArray, List.set_cons_zero, List.set_cons_succ]
  refine AnyG.take (i := 4) (v := ?_) rfl (by kernel_rfl) (fun _ _ _ h => h) rfl ?_ hS ?_
  rotate_left
  · (intro w' hSw; (try dsimp only at hSw); go_split_ands; go_simp; try with_reducible rfl)
  try simp only [Act.put, List.setIfInBounds_toArray, List.set_cons_zero, List.set_cons_succ]
  refine AnyG.take (i := 5) (v := ?_) rfl (by kernel_rfl) (fun _ _ _ h => h) rfl ?_ hS ?_
  rotate_left
  · (intro w' hSw; (try dsimp only at hSw); go_split_ands; go_simp; try with_reducible rfl)
  try simp only [Act.put, List.setIfInBounds_toArray, List.set_cons_zero, List.set_cons_succ]
  refine AnyG.take (i := 6) (v := ?_) rfl (by kernel_rfl) (fun _ _ _ h => h) rfl ?_ hS ?_
  rotate_left
  · (intro w' hSw; (try dsimp only at hSw); go_split_ands; go_simp; try with_reducible rfl)
  try simp only [Act.put, List.setIfInBounds_toArray, List.set_cons_zero, List.set_cons_succ]
  refine AnyG.take (i := 7) (v := ?_) rfl (by kernel_rfl) (fun _ _ _ h => h) rfl ?_ hS ?_
  rotate_left
  · (intro w' hSw; (try dsimp only at hSw); go_split_ands; go_simp; try with_reducible rfl)
  try simp only [Act.put, List.setIfInBounds_toArray, List.set_cons_zero, List.set_cons_succ]
  refine AnyG.take (i := 8) (v := ?_) rfl (by kernel_rfl) (fun _ _ _ h => h) rfl ?_ hS ?_
  rotate_left
  · (intro w' hSw; (try dsimp only at hSw); go_split_ands; go_simp; try with_reducible rfl)
  try simp only [Act.put, List.setIfInBounds_toArray, List.set_cons_zero, List.set_cons_succ]
  refine AnyG.take (i := 9) (v := ?_) rfl (by kernel_rfl) (fun _ _ _ h => h) rfl ?_ hS ?_
  rotate_left
  · (intro w' hSw; (try dsimp only at hSw); go_split_ands; go_simp; try with_reducible rfl)
  try simp only [Act.put, List.setIfInBounds_toArray, List.set_cons_zero, List.set_cons_succ]
  refine AnyG.one (i := 1) (by kernel_rfl) rfl rfl ?_
  have HS := Lib.hid hS
  clear hS
  go_simp
  refine (wanted_any FA fn fc BA bn bc fs bs d0 d1 F B _ HF.out HBn.out hfn4 hbn4 ((hF.below hB.drew).more hB.size) ((hBs.below hB.drew).more hB.size) HF1.out HB1.out).mono ?_
  rintro r w4 ⟨rfl, hown, hb4⟩
  replace hown : w4.ownsMap Try.prog 3 (plainElem Try.prog 3) (w3.heap.size + 1) 8 (wmap F B) := hown
  have hlen := hown.len Try.underlying113 3
  refine Onward.on ⟨cellB hb4 HS.out.1, cellB hb4 HS.out.2.1, cellB hb4 HS.out.2.2.1, cellB hb4 HS.out.2.2.2.1, cellB hb4 HS.out.2.2.2.2.1, cellB hb4 HS.out.2.2.2.2.2⟩ (fun hS => ?_)
  try simp only [Act.put, List.setIfInBounds_toArray, List.set_cons_zero, List.set_cons_succ]
  refine AnyG.one (i := 2) (by kernel_rfl) rfl rfl ?_
  clear HS
  have HS := Lib.hid hS
  clear hS
  go_simp
  refine Onward.on HS.out (fun hS => ?_)
  try simp only [Act.put, List.setIfInBounds_toArray, List.set_cons_zero, List.set_cons_succ]
  refine AnyG.take (i := 10) (v := ?_) rfl (by kernel_rfl) (fun _ _ _ h => h) rfl ?_ hS ?_
  rotate_left
  · (intro w' hSw; (try dsimp only at hSw); go_split_ands; go_simp; try with_reducible rfl)
  try simp only [Act.put, List.setIfInBounds_toArray, List.set_cons_zero, List.set_cons_succ]
  refine AnyG.done (by kernel_rfl) ?_ _
  replace hB := hB.drew.trans (hb4.mono hB.size)
  replace p2 := p2.drew.call hb4
  clear hwr hlen hown hb4 p1 hS HS a0 a1 a2 a3 af az s0 s1 s2 s3 s4 s5 sf sz
  obtain ⟨s0, s1, s2, s3, s4, s5, sf, sz⟩ := p2.six
  by_cases ho : overlap F B = true
  · have hlt : ((size (wmap F B) : Nat) : Int) < (fn : Int) + (bn : Int) := by have := hless.out.2 ho; rw [HF.out, HBn.out] at this; omega
    have H1 : Hid (ckS st z0 z1 es F B fs bs d0 d1 = 4) := by unfold Hid; rw [H0.out, if_neg (fun h => h HFz.out), if_neg (fun h => h HBz.out), if_pos ho]
    clear ho H0
    go_wp2_with fail
    go_ret
    exact ⟨ret_int H1.out.symm, hB⟩
  have hlt : (fn : Int) + (bn : Int) ≤ ((size (wmap F B) : Nat) : Int) := by
    rcases Nat.lt_or_ge (size (wmap F B)) (fn + bn) with h | h
    · exact absurd (hless.out.1 (by rw [HF.out, HBn.out]; exact h)) ho
    · omega
  have H1 : Hid (ckS st z0 z1 es F B fs bs d0 d1 = if seatB fs = false ∨ seatB bs = false then 8 else ckR d0 d1 0 200) := by unfold Hid; rw [H0.out, if_neg (fun h => h HFz.out), if_neg (fun h => h HBz.out), if_neg ho]
  clear ho H0
  by_cases h1 : seatB fs = false
  · have H2 : Hid (ckS st z0 z1 es F B fs bs d0 d1 = 8) := by unfold Hid; rw [H1.out, if_pos (.inl h1)]
    clear H1
    go_wp2_with (first | (go_at_call_of 77 (Value.int .i64 fs); refine (isSeat_b _ _).mono ?_; rintro e w' ⟨rfl, rfl⟩) | (go_at_call_of 77 (Value.int .i64 bs); refine (isSeat_b _ _).mono ?_; rintro e w' ⟨rfl, rfl⟩) | (go_at_call 62; refine (checkRange_any _ _ _ _ _).mono ?_; rintro e w5 ⟨rfl, hb5⟩; replace hB := hB.trans (hb5.mono hB.size)))
    go_ret
    exact ⟨ret_int H2.out.symm, hB⟩
  have h1 : seatB fs = true := by simpa using h1
  by_cases h2 : seatB bs = false
  · have H2 : Hid (ckS st z0 z1 es F B fs bs d0 d1 = 8) := by unfold Hid; rw [H1.out, if_pos (.inr h2)]
    clear H1
    go_wp2_with (first | (go_at_call_of 77 (Value.int .i64 fs); refine (isSeat_b _ _).mono ?_; rintro e w' ⟨rfl, rfl⟩) | (go_at_call_of 77 (Value.int .i64 bs); refine (isSeat_b _ _).mono ?_; rintro e w' ⟨rfl, rfl⟩) | (go_at_call 62; refine (checkRange_any _ _ _ _ _).mono ?_; rintro e w5 ⟨rfl, hb5⟩; replace hB := hB.trans (hb5.mono hB.size)))
    go_ret
    exact ⟨ret_int H2.out.symm, hB⟩
  have h2 : seatB bs = true := by simpa using h2
  have H2 : Hid (ckS st z0 z1 es F B fs bs d0 d1 = ckR d0 d1 0 200) := by unfold Hid; rw [H1.out, if_neg (by simp [h1, h2])]
  clear H1
  go_wp2_with (first | (go_at_call_of 77 (Value.int .i64 fs); refine (isSeat_b _ _).mono ?_; rintro e w' ⟨rfl, rfl⟩) | (go_at_call_of 77 (Value.int .i64 bs); refine (isSeat_b _ _).mono ?_; rintro e w' ⟨rfl, rfl⟩) | (go_at_call 62; refine (checkRange_any _ _ _ _ _).mono ?_; rintro e w5 ⟨rfl, hb5⟩; replace hB := hB.trans (hb5.mono hB.size)))
  go_ret
  exact ⟨ret_int H2.out.symm, hB⟩
end Go.Proofs.Ytgbogdckmfencaa
