/- bridge.zerosOf: the zeros that each event of a log may have, by all events; or Check's error; or ErrConflict. -/
import Derived.Test.YtgbogdckmfencaaReach
import Derived.Test.YtgbogdckmfencaaCk
set_option linter.unusedSimpArgs false
set_option linter.unusedVariables false
namespace Go.Proofs.Ytgbogdckmfencaa
open Go.RowKit
attribute [local go_sem ↓] Go.wp_at_zero Go.wp_at_succ
set_option maxRecDepth 100000 in
set_option maxHeartbeats 1000000 in
theorem zerosOf_bad (st z0 z1 : Int) (A : Option Addr) (n c : Nat) (es : List Ev) (w : World) (hn : n ≤ 9223372036854775807) (hl : es.length = n) (hA : EvsAt w w.heap.size A es) (hck : ckL st z0 z1 es ≠ 0) :
    Calls Try.prog 58 #[.agg #[.int .i64 st, .int .i64 z0, .int .i64 z1, .slice A n c]] w fun e w' => e = .returned (.tuple #[.agg (zarr fun _ => (0, 0)), .int .i64 (ckL st z0 z1 es)]) ∧ Below w.heap.size w w' := by
  have hz1 : (ckL st z0 z1 es != 0) = true := by simpa using hck
  have HC := Lib.hid hck
  clear hck
  go_enter Try.func58, Try.ntmps58
  go_wp2_with (first | (go_at_call 22; refine (check_any st z0 z1 A n c es _ hn hl ((hA.below (((Below.refl _ _).alloc (Nat.le_refl _) _).alloc (by simp) _)).more (by simp; omega))).mono ?_; rintro e w1 ⟨rfl, hb⟩; have p2 := (Bx.at (w.alloc _) 91 _ (n := w.heap.size + 1) (by simp)).call hb; have hsz : w.heap.size + 1 < w1.heap.size := p2.lt; have hB := (((Below.refl w.heap.size w).alloc (Nat.le_refl _) _).alloc (by simp) _).trans (hb.mono (by simp; omega)); clear hb) | ((with_reducible (show wpList _ _ _ (⟨none, .store 91 _ _, _, _, _, _⟩ :: _) _ _)); rw [← zarr0] at p2 ⊢; refine wpList_store_row rfl 91 (.tmp 2) (.tmp 12) rfl (w.heap.size + 1) _ rfl rfl 91 _ p2 (by rw [zarr_size]; kernel_rfl) (by rw [zarr_size]) (zarr_one _) ?_))
  refine bodyPost_ret (results_row_tmp (cs := zarr fun _ => (0, 0)) rfl rfl p2.row Try.underlying91 rfl (by rw [zarr_size]; kernel_rfl)) rfl ⟨rfl, hB.setRow (by omega) _⟩

set_option maxRecDepth 100000 in
set_option maxHeartbeats 1000000 in
theorem zerosOf_none (st z0 z1 : Int) (A : Option Addr) (n c : Nat) (es : List Ev) (w : World) (hl : es.length = n) (hA : EvsAt w w.heap.size A es) (hck : ckL st z0 z1 es = 0) (m : Nat) (hfit : Fits st z0 z1 es m) (hm : m < n) :
    Calls Try.prog 58 #[.agg #[.int .i64 st, .int .i64 z0, .int .i64 z1, .slice A n c]] w fun e w' => e = .returned (.tuple #[.agg (zarr fun _ => (0, 0)), .int .i64 9]) ∧ Below w.heap.size w w' := by
  have hz1 : (ckL st z0 z1 es != 0) = false := by simpa using hck
  have hok := ckL_zero hck
  have hn : n ≤ 9223372036854775807 := by have := hok.n; omega
  have HC := Lib.hid hck
  clear hck
  have HL := Lib.hid hl
  clear hl
  have HF := Lib.hid hfit
  clear hfit
  have HO := Lib.hid hok
  clear hok
  go_enter Try.func58, Try.ntmps58
  go_wp2_with (first
    | (go_at_call 22; refine (check_any st z0 z1 A n c es _ hn HL.out ((hA.below (((Below.refl _ _).alloc (Nat.le_refl _) _).alloc (by simp) _)).more (by simp; omega))).mono ?_; rintro e w1 ⟨rfl, hb⟩; have p1 := ((Bx.new w 26 _).alloc _).call hb; have p2 := (Bx.at (w.alloc _) 91 _ (n := w.heap.size + 1) (by simp)).call hb; have hsz : w.heap.size + 1 < w1.heap.size := p2.lt; have hB := (((Below.refl w.heap.size w).alloc (Nat.le_refl _) _).alloc (by simp) _).trans (hb.mono (by simp; omega)); clear hb; obtain ⟨a0, a1, a2, a3, af, az⟩ := p1.four; rw [HC.out])
    | (go_at_call 61; refine (reachable_any st z0 z1 A n c es _ HO.out HL.out ((hA.below hB).more hB.size)).mono ?_; rintro e w2 ⟨⟨m', hfit', rfl⟩, hb2⟩; obtain rfl := hfit'.uniq HF.out; replace p1 := p1.call hb2; replace p2 := p2.call hb2; replace hB := hB.trans (hb2.mono hB.size); have hsz2 : w.heap.size + 1 < w2.heap.size := p2.lt; clear hb2; obtain ⟨a0, a1, a2, a3, af, az⟩ := p1.four)
    | ((with_reducible (show wpList _ _ _ (⟨none, .store 91 (.tmp 5) _, _, _, _, _⟩ :: _) _ _)); rw [← zarr0]; refine wpList_store_row rfl 91 (.tmp 5) (.tmp 17) rfl w2.heap.size _ rfl rfl 91 _ (Bx.new w2 91 (zarr fun _ => (0, 0))) (by rw [zarr_size]; kernel_rfl) (by rw [zarr_size, zarr_size]) (zarr_one _) ?_; have p5 := (Bx.new w2 91 (zarr fun _ => (0, 0))).row (cs' := zarr (kn st z0 z1 es m')); replace p1 := (p1.alloc (.cells (zarr fun _ => (0, 0)) 91)).rowfar (g' := w2.heap.size) (cs' := zarr (kn st z0 z1 es m')) (by omega); replace p2 := (p2.alloc (.cells (zarr fun _ => (0, 0)) 91)).rowfar (g' := w2.heap.size) (cs' := zarr (kn st z0 z1 es m')) (by omega); replace hB := (hB.alloc hB.size (.cells (zarr fun _ => (0, 0)) 91)).setRow (g := w2.heap.size) hB.size (zarr (kn st z0 z1 es m')); generalize World.setRow _ _ _ = w3 at *; obtain ⟨a0, a1, a2, a3, af, az⟩ := p1.four)
    | ((with_reducible (show wpList _ _ _ (⟨none, .store 91 (.tmp 2) _, _, _, _, _⟩ :: _) _ _)); rw [← zarr0] at p2 ⊢; refine wpList_store_row rfl 91 (.tmp 2) (.tmp 24) rfl (w.heap.size + 1) _ rfl rfl 91 _ p2 (by rw [zarr_size]; kernel_rfl) (by rw [zarr_size]) (zarr_one _) ?_))
  refine bodyPost_ret (results_row_tmp (cs := zarr fun _ => (0, 0)) rfl rfl p2.row Try.underlying91 rfl (by rw [zarr_size]; kernel_rfl)) rfl ⟨rfl, hB.setRow (by omega) _⟩
theorem reachable_fit (st z0 z1 : Int) (A : Option Addr) (n c : Nat) (es : List Ev) (w : World) (hok : LogOk st z0 z1 es) (hl : es.length = n) (hA : EvsAt w w.heap.size A es) {m : Nat} (hfit : Fits st z0 z1 es m) :
    Calls Try.prog 61 #[.agg #[.int .i64 st, .int .i64 z0, .int .i64 z1, .slice A n c]] w fun e w' => e = .returned (.tuple #[.agg (zarr (kn st z0 z1 es m)), .int .i64 m]) ∧ Below w.heap.size w w' :=
  (reachable_any st z0 z1 A n c es w hok hl hA).mono fun e w' ⟨⟨m', hf, he⟩, hb⟩ => by
    obtain rfl := hf.uniq hfit
    exact ⟨he, hb⟩
set_option maxRecDepth 100000 in
set_option maxHeartbeats 1000000 in
theorem zerosOf_all (st z0 z1 : Int) (A : Option Addr) (n c : Nat) (es : List Ev) (w : World) (hl : es.length = n) (hA : EvsAt w w.heap.size A es) (hck : ckL st z0 z1 es = 0) (hfit : Fits st z0 z1 es n) :
    Calls Try.prog 58 #[.agg #[.int .i64 st, .int .i64 z0, .int .i64 z1, .slice A n c]] w fun e w' => e = .returned (.tuple #[.agg (zarr (zst st z0 z1 es 0)), .int .i64 0]) ∧ Below w.heap.size w w' := by
  have hz0 : ∀ x : World, x = x := fun _ => rfl
  clear hz0
  have hz1 : (ckL st z0 z1 es != 0) = false := by simpa using hck
  have hok := ckL_zero hck
  have hn : n ≤ 9223372036854775807 := by have := hok.n; omega
  have HC := Lib.hid hck
  clear hck
  have HL := Lib.hid hl
  clear hl
  have HF := Lib.hid hfit
  clear hfit
  have HO := Lib.hid hok
  clear hok
  go_enter Try.func58, Try.ntmps58
  go_wp2_with (first
    | (go_at_call 22; refine (check_any st z0 z1 A n c es _ hn HL.out ((hA.below (((Below.refl _ _).alloc (Nat.le_refl _) _).alloc (by simp) _)).more (by simp; omega))).mono ?_; rintro e w1 ⟨rfl, hb⟩; have p1 := ((Bx.new w 26 _).alloc _).call hb; have p2 := (Bx.at (w.alloc _) 91 _ (n := w.heap.size + 1) (by simp)).call hb; have hsz : w.heap.size + 1 < w1.heap.size := p2.lt; have hB := (((Below.refl w.heap.size w).alloc (Nat.le_refl _) _).alloc (by simp) _).trans (hb.mono (by simp; omega)); clear hb; obtain ⟨a0, a1, a2, a3, af, az⟩ := p1.four; rw [HC.out])
    | (go_at_call 61; refine (reachable_fit st z0 z1 A n c es _ HO.out HL.out ((hA.below hB).more hB.size) HF.out).mono ?_; rintro e w2 ⟨rfl, hb2⟩; replace p1 := p1.call hb2; replace p2 := p2.call hb2; replace hB := hB.trans (hb2.mono hB.size); have hsz2 : w.heap.size + 1 < w2.heap.size := p2.lt; clear hb2; obtain ⟨a0, a1, a2, a3, af, az⟩ := p1.four)
    | ((with_reducible (show wpList _ _ _ (⟨none, .store 91 (.tmp 5) _, _, _, _, _⟩ :: _) _ _)); rw [← zarr0]; refine wpList_store_row rfl 91 (.tmp 5) (.tmp 17) rfl w2.heap.size _ rfl rfl 91 _ (Bx.new w2 91 (zarr fun _ => (0, 0))) (by rw [zarr_size]; kernel_rfl) (by rw [zarr_size, zarr_size]) (zarr_one _) ?_; have p5 := (Bx.new w2 91 (zarr fun _ => (0, 0))).row (cs' := zarr (kn st z0 z1 es n)); replace p1 := (p1.alloc (.cells (zarr fun _ => (0, 0)) 91)).rowfar (g' := w2.heap.size) (cs' := zarr (kn st z0 z1 es n)) (by omega); replace p2 := (p2.alloc (.cells (zarr fun _ => (0, 0)) 91)).rowfar (g' := w2.heap.size) (cs' := zarr (kn st z0 z1 es n)) (by omega); replace hB := (hB.alloc hB.size (.cells (zarr fun _ => (0, 0)) 91)).setRow (g := w2.heap.size) hB.size (zarr (kn st z0 z1 es n)); generalize World.setRow _ _ _ = w3 at *; obtain ⟨a0, a1, a2, a3, af, az⟩ := p1.four))
  rw [show kn st z0 z1 es n = zst st z0 z1 es (n - 1) from by rw [← HL.out]; exact zst_start st z0 z1 es] at p5
  go_loopw [7] (fun i wr => ∃ (j : Nat) (q : Int), i = .int .i64 q ∧ (0 ≤ q → q + 1 = j) ∧ (q < 0 → j = 0) ∧ -2 ≤ q ∧ j ≤ n - 1 ∧ Bx wr w.heap.size 26 #[.int .i64 st, .int .i64 z0, .int .i64 z1, .slice A n c] ∧ Bx wr (w.heap.size + 1) 91 (zarr fun _ => (0, 0)) ∧ Bx wr w2.heap.size 91 (zarr (zst st z0 z1 es j)) ∧ Below w.heap.size w wr) (fun i _ => (intOf i + 2).toNat)
  case atStart =>
    exact ⟨n - 1, (n : Int) - 2, rfl, by omega, by omega, by omega, by omega, p1, by rw [zarr0]; exact p2, p5, hB⟩
  case round =>
    obtain ⟨j, q, rfl, hq1, hq2, hq3, hj, k1, k2, k5, hB'⟩ := hrel
    by_cases hq : 0 ≤ q
    · obtain ⟨i, rfl⟩ : ∃ i, j = i + 1 := ⟨j - 1, by omega⟩
      obtain rfl : q = (i : Int) := by omega
      clear hq1 hq2 hq3 hq p1 p2 p5 hB
      have hin : i + 1 < n := by omega
      have hke : i + 1 < es.length := by rw [HL.out]; exact hin
      have hn14 : n ≤ 14 := by rw [← HL.out]; exact HO.out.n
      obtain ⟨ad, rfl, hab, _, _, _, q3, q4⟩ := (hA.below hB').at_ hke
      have hfs := finR_succ (st := st) (z0 := z0) (z1 := z1) hke
      have hup := Lib.hid (zst_upd (st := st) (z0 := z0) (z1 := z1) hke)
      have he := HO.out.ev _ (List.getElem_mem hke)
      obtain ⟨_, _, _, _, _, _, hc1, hc2, hc3⟩ := he
      obtain ⟨b1, b2⟩ := bef_lo HO.out (i + 1)
      have b3 := HF.out.yes i (by omega)
      obtain ⟨f1, f2, f3, f4⟩ := finR_bd HO.out (fun j hj => HF.out.yes j (by rw [← HL.out]; exact hj)) (es.length - 1 - (i + 1)) (by omega)
      have hd14 : es.length - 1 - (i + 1) ≤ 14 := by have := HO.out.n; omega
      have e0 := (k5.cell (i * 2)).trans (zarr_fst _ (by omega))
      have e1 := (k5.cell (i * 2 + 1)).trans (zarr_snd _ (by omega))
      have e2 := (k5.cell ((i + 1) * 2)).trans (zarr_fst _ (by omega))
      have e3 := (k5.cell ((i + 1) * 2 + 1)).trans (zarr_snd _ (by omega))
      rw [zst_lo hke] at e0 e1
      rw [zst_hi hke] at e2 e3
      generalize es.length - 1 - (i + 1) = d at *
      generalize hx0 : (bef st z0 z1 es (i + 1)).1 = x0 at *
      generalize hx1 : (bef st z0 z1 es (i + 1)).2 = x1 at *
      generalize hy0 : (finR st z0 z1 es d).1 = y0 at *
      generalize hy1 : (finR st z0 z1 es d).2 = y1 at *
      generalize es[i + 1].c0 = c0 at *
      generalize es[i + 1].c1 = c1 at *
      clear hx0 hx1 hy0 hy1
      have hfs := Lib.hid hfs
      obtain ⟨a0, a1, a2, a3, af, az⟩ := k1.four
      have hi0 : (0 : Int) ≤ (i : Int) := by omega
      have hi1 : (i : Int) < 14 := by omega
      have hi2 : (i : Int) + 1 < 14 := by omega
      have hi3 : (i : Int) + 1 < (n : Int) := by omega
      have hw1 : IntKind.i64.wrap ((i : Int) + 1) = (i : Int) + 1 := IntWalk.i64_in _ (by omega)
      have hw2 : ((i : Int) + 1).toNat = i + 1 := by omega
      have hw3 : (0 : Int) ≤ (i : Int) + 1 := by omega
      go_wp2_with fail
      refine AnyG.start (fun w' : World => w'.cell? ⟨w.heap.size, 3, none⟩ = some (.slice (some ad) n c) ∧ w'.cell? ⟨w2.heap.size, i * 2, none⟩ = some (.int .i64 x0) ∧ w'.cell? ⟨w2.heap.size, i * 2 + 1, none⟩ = some (.int .i64 x1) ∧ w'.cell? ⟨w2.heap.size, (i + 1) * 2, none⟩ = some (.int .i64 y0) ∧ w'.cell? ⟨w2.heap.size, (i + 1) * 2 + 1, none⟩ = some (.int .i64 y1) ∧ w'.cell? ⟨(ad.add ((i + 1) * 5)).block, (ad.add ((i + 1) * 5)).off + 3, none⟩ = some (.int .i64 c0) ∧ w'.cell? ⟨(ad.add ((i + 1) * 5)).block, (ad.add ((i + 1) * 5)).off + 4, none⟩ = some (.int .i64 c1)) (fun i => i != 18) (by kernel_rfl) ?_
      have hS : (fun w' : World => w'.cell? ⟨w.heap.size, 3, none⟩ = some (.slice (some ad) n c) ∧ w'.cell? ⟨w2.heap.size, i * 2, none⟩ = some (.int .i64 x0) ∧ w'.cell? ⟨w2.heap.size, i * 2 + 1, none⟩ = some (.int .i64 x1) ∧ w'.cell? ⟨w2.heap.size, (i + 1) * 2, none⟩ = some (.int .i64 y0) ∧ w'.cell? ⟨w2.heap.size, (i + 1) * 2 + 1, none⟩ = some (.int .i64 y1) ∧ w'.cell? ⟨(ad.add ((i + 1) * 5)).block, (ad.add ((i + 1) * 5)).off + 3, none⟩ = some (.int .i64 c0) ∧ w'.cell? ⟨(ad.add ((i + 1) * 5)).block, (ad.add ((i + 1) * 5)).off + 4, none⟩ = some (.int .i64 c1)) (World.drew wr) := ⟨a3, e0, e1, e2, e3, q3, q4⟩
      refine AnyG.take (i := 0) (v := ?_) rfl (by kernel_rfl) (fun _ _ _ h => h) rfl ?_ hS ?_
      rotate_left
      · (intro w' hSw; (try dsimp only at hSw); go_split_ands; go_simp; try with_reducible rfl)
      try simp only [Act.put, List.setIfInBounds_toArray, List.set_cons_zero, List.set_cons_succ]
      refine AnyG.take (i := 1) (v := ?_) rfl (by kernel_rfl) (fun _ _ _ h => h) rfl ?_ hS ?_
      rotate_left
      · (intro w' hSw; (try dsimp only at hSw); go_split_ands; go_simp; try with_reducible rfl)
      try simp only [Act.put, List.setIfInBounds_toArray, List.set_cons_zero, List.set_cons_succ]
      refine AnyG.take (i := 2) (v := ?_) rfl (by kernel_rfl) (fun _ _ _ h => h) rfl ?_ hS ?_
      rotate_left
      · (intro w' hSw; (try dsimp only at hSw); go_split_ands; go_simp; try with_reducible rfl)
      try simp only [Act.put, List.setIfInBounds_toArray, List.set_cons_zero, List.set_cons_succ]
      refine AnyG.take (i := 3) (v := ?_) rfl (by kernel_rfl) (fun _ _ _ h => h) rfl ?_ hS ?_
      rotate_left
      · (intro w' hSw; (try dsimp only at hSw); go_split_ands; go_simp; try with_reducible rfl)
      try simp only [Act.put, List.setIfInBounds_toArray, List.set_cons_zero, List.set_cons_succ]
      refine AnyG.take (i := 4) (v := ?_) rfl (by kernel_rfl) (fun _ _ _ h => h) rfl ?_ hS ?_
      rotate_left
      · (intro w' hSw; (try dsimp only at hSw); go_split_ands; go_simp; try with_reducible rfl)
      try simp only [Act.put, List.setIfInBounds_toArray, List.set_cons_zero, List.set_cons_succ]
      refine AnyG.take (i := 5) (v := ?_) rfl (by kernel_rfl) (fun _ _ _ h => h) rfl ?_ hS ?_
      rotate_left
      · (intro w' hSw; (try dsimp only at hSw); go_split_ands; go_simp; try with_reducible rfl)
      try simp only [Act.put, List.setIfInBounds_toArray, List.set_cons_zero, List.set_cons_succ]
      refine AnyG.take (i := 6) (v := ?_) rfl (by kernel_rfl) (fun _ _ _ h => h) rfl ?_ hS ?_
      rotate_left
      · (intro w' hSw; (try dsimp only at hSw); go_split_ands; go_simp; try with_reducible rfl)
      try simp only [Act.put, List.setIfInBounds_toArray, List.set_cons_zero, List.set_cons_succ]
      refine AnyG.take (i := 7) (v := ?_) rfl (by kernel_rfl) (fun _ _ _ h => h) rfl ?_ hS ?_
      rotate_left
      · (intro w' hSw; (try dsimp only at hSw); go_split_ands; go_simp; try with_reducible rfl)
      try simp only [Act.put, List.setIfInBounds_toArray, List.set_cons_zero, List.set_cons_succ]
      refine AnyG.take (i := 8) (v := ?_) rfl (by kernel_rfl) (fun _ _ _ h => h) rfl ?_ hS ?_
      rotate_left
      · (intro w' hSw; (try dsimp only at hSw); go_split_ands; go_simp; try with_reducible rfl)
      try simp only [Act.put, List.setIfInBounds_toArray, List.set_cons_zero, List.set_cons_succ]
      refine AnyG.take (i := 9) (v := ?_) rfl (by kernel_rfl) (fun _ _ _ h => h) rfl ?_ hS ?_
      rotate_left
      · (intro w' hSw; (try dsimp only at hSw); go_split_ands; go_simp; try with_reducible rfl)
      try simp only [Act.put, List.setIfInBounds_toArray, List.set_cons_zero, List.set_cons_succ]
      refine AnyG.take (i := 10) (v := ?_) rfl (by kernel_rfl) (fun _ _ _ h => h) rfl ?_ hS ?_
      rotate_left
      · (intro w' hSw; (try dsimp only at hSw); go_split_ands; go_simp; try with_reducible rfl)
      try simp only [Act.put, List.setIfInBounds_toArray, List.set_cons_zero, List.set_cons_succ]
      refine AnyG.take (i := 11) (v := ?_) rfl (by kernel_rfl) (fun _ _ _ h => h) rfl ?_ hS ?_
      rotate_left
      · (intro w' hSw; (try dsimp only at hSw); go_split_ands; go_simp; try with_reducible rfl)
      try simp only [Act.put, List.setIfInBounds_toArray, List.set_cons_zero, List.set_cons_succ]
      refine AnyG.take (i := 12) (v := ?_) rfl (by kernel_rfl) (fun _ _ _ h => h) rfl ?_ hS ?_
      rotate_left
      · (intro w' hSw; (try dsimp only at hSw); go_split_ands; go_simp; try with_reducible rfl)
      try simp only [Act.put, List.setIfInBounds_toArray, List.set_cons_zero, List.set_cons_succ]
      refine AnyG.take (i := 13) (v := ?_) rfl (by kernel_rfl) (fun _ _ _ h => h) rfl ?_ hS ?_
      rotate_left
      · (intro w' hSw; (try dsimp only at hSw); go_split_ands; go_simp; try with_reducible rfl)
      try simp only [Act.put, List.setIfInBounds_toArray, List.set_cons_zero, List.set_cons_succ]
      refine AnyG.take (i := 14) (v := ?_) rfl (by kernel_rfl) (fun _ _ _ h => h) rfl ?_ hS ?_
      rotate_left
      · (intro w' hSw; (try dsimp only at hSw); go_split_ands; go_simp; try with_reducible rfl)
      try simp only [Act.put, List.setIfInBounds_toArray, List.set_cons_zero, List.set_cons_succ]
      clear hw1 hw2 hw3 e0 e1 e2 e3 a0 a1 a2 a3 q3 q4
      refine AnyG.one (i := 15) (by kernel_rfl) rfl rfl ?_
      have HS := Lib.hid hS
      clear hS
      go_simp
      refine (origins_any _ _ _ _ _ (by omega) (by omega) (by omega) (by omega) (by omega) (by omega) (by omega) (by omega)).mono ?_
      rintro r w4 ⟨rfl, hb4⟩
      refine Onward.on ⟨cellB hb4 HS.out.1, cellB hb4 HS.out.2.1, cellB hb4 HS.out.2.2.1, cellB hb4 HS.out.2.2.2.1, cellB hb4 HS.out.2.2.2.2.1, cellB hb4 HS.out.2.2.2.2.2.1, cellB hb4 HS.out.2.2.2.2.2.2⟩ (fun hS => ?_)
      try simp only [Act.put, List.setIfInBounds_toArray, List.set_cons_zero, List.set_cons_succ]
      replace k1 := k1.drew.call hb4
      replace k2 := k2.drew.call hb4
      replace k5 := k5.drew.call hb4
      replace hB' := hB'.drew.trans (hb4.mono hB'.size)
      refine AnyG.one (i := 16) (by kernel_rfl) rfl rfl ?_
      clear HS
      have HS := Lib.hid hS
      clear hS
      go_simp
      refine (meet_any _ _ _ _ _).mono ?_
      rintro r w5 ⟨rfl, hb5⟩
      refine Onward.on ⟨cellB hb5 HS.out.1, cellB hb5 HS.out.2.1, cellB hb5 HS.out.2.2.1, cellB hb5 HS.out.2.2.2.1, cellB hb5 HS.out.2.2.2.2.1, cellB hb5 HS.out.2.2.2.2.2.1, cellB hb5 HS.out.2.2.2.2.2.2⟩ (fun hS => ?_)
      try simp only [Act.put, List.setIfInBounds_toArray, List.set_cons_zero, List.set_cons_succ]
      replace k1 := k1.call hb5
      replace k2 := k2.call hb5
      replace k5 := k5.call hb5
      replace hB' := hB'.trans (hb5.mono hB'.size)
      clear hb4 hb5
      refine AnyG.take (i := 17) (v := ?_) rfl (by kernel_rfl) (fun _ _ _ h => h) rfl ?_ hS ?_
      rotate_left
      · (intro w' hSw; (try dsimp only at hSw); go_split_ands; go_simp; try with_reducible rfl)
      try simp only [Act.put, List.setIfInBounds_toArray, List.set_cons_zero, List.set_cons_succ]
      refine AnyG.one (i := 18) (by kernel_rfl) rfl rfl ?_
      obtain ⟨_, s0, s1, _⟩ := hS
      have s2 := k5.free
      have s3 := k5.lt
      go_simp
      refine Onward.last rfl (AnyG.done (by kernel_rfl) ?_ _)
      have k5' := (k5.set_ (i * 2) (.int .i64 (max x0 (y0 - c1)))).set_ (i * 2 + 1) (.int .i64 (min x1 (y1 - c0)))
      rw [zarr_set _ (by omega), ← hfs.out, hup.out] at k5'
      have k1' := (k1.far (p := ⟨w2.heap.size, i * 2, none⟩) (by simp; omega) (.int .i64 (max x0 (y0 - c1)))).far (p := ⟨w2.heap.size, i * 2 + 1, none⟩) (by simp; omega) (.int .i64 (min x1 (y1 - c0)))
      have k2' := (k2.far (p := ⟨w2.heap.size, i * 2, none⟩) (by simp; omega) (.int .i64 (max x0 (y0 - c1)))).far (p := ⟨w2.heap.size, i * 2 + 1, none⟩) (by simp; omega) (.int .i64 (min x1 (y1 - c0)))
      have hB2 := (hB'.setCell (p := ⟨w2.heap.size, i * 2, none⟩) (by simp; omega) (.int .i64 (max x0 (y0 - c1)))).setCell (p := ⟨w2.heap.size, i * 2 + 1, none⟩) (by simp; omega) (.int .i64 (min x1 (y1 - c0)))
      go_wp2_with fail
      go_roundw
      case rel => exact ⟨i, (i : Int) - 1, rfl, by omega, by omega, by omega, by omega, k1', k2', k5', hB2⟩
      case measure => simp [intOf]; omega
    · obtain rfl : j = 0 := hq2 (by omega)
      go_wp2_with (first
        | ((with_reducible (show wpList _ _ _ (⟨some 51, _, _, _, _, _⟩ :: _) _ _)); refine wpList_load_row rfl 91 (.tmp 5) rfl w2.heap.size rfl 91 _ (0, 0) _ k5 Try.underlying91 rfl (by rw [zarr_size]; kernel_rfl) ?_)
        | ((with_reducible (show wpList _ _ _ (⟨none, .store 91 (.tmp 2) _, _, _, _, _⟩ :: _) _ _)); refine wpList_store_row rfl 91 (.tmp 2) (.tmp 51) rfl (w.heap.size + 1) _ rfl rfl 91 _ k2 (by rw [zarr_size]; kernel_rfl) (by rw [zarr_size, zarr_size]) (zarr_one _) ?_))
      exact bodyPost_ret (results_row_tmp (cs := zarr (zst st z0 z1 es 0)) rfl rfl k2.row Try.underlying91 rfl (by rw [zarr_size]; kernel_rfl)) rfl ⟨rfl, hB'.setRow (by omega) _⟩
end Go.Proofs.Ytgbogdckmfencaa
