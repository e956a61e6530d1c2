/- bridge.reachable: the zeros that events may have by themselves and those before them, up to the first that has none. -/
import Derived.Test.YtgbogdckmfencaaSh
import Derived.Test.YtgbogdckmfencaaMath
import Derived.Test.YtgbogdckmfencaaReg
set_option linter.unusedSimpArgs false
set_option linter.unusedVariables false
namespace Go.Proofs.Ytgbogdckmfencaa
open Go.RowKit
attribute [local go_sem ↓] Go.wp_at_zero Go.wp_at_succ
theorem shownZeros_ev (st : Int) (e : Ev) (w : World) (h1 : 1 ≤ st) (h2 : st ≤ 100) (h : EvOk e) :
    Calls Try.prog 91 #[.int .i64 st, .agg #[.int .i64 e.kd, .int .i64 e.sh, .int .i64 e.ld, .int .i64 e.c0, .int .i64 e.c1]] w fun r w' => r = .returned (.agg #[.int .i64 (sLo st e), .int .i64 (sHi st e)]) ∧ Below w.heap.size w w' :=
  shownZeros_any st e.kd e.sh e.ld e.c0 e.c1 w h1 h2 h.s1 h.s2 h.l1 h.l2
def ReachPost (st z0 z1 : Int) (es : List Ev) (w : World) (e : Ending) (w' : World) : Prop :=
  (∃ m, Fits st z0 z1 es m ∧ e = .returned (.tuple #[.agg (zarr (kn st z0 z1 es m)), .int .i64 m])) ∧ Below w.heap.size w w'
def LI (st z0 z1 : Int) (es : List Ev) (A : Option Addr) (n c : Nat) (w : World) (i : Value) (wr : World) : Prop :=
  ∃ k : Nat, k ≤ n ∧ i = .int .i64 k ∧ (∀ j, j < k → (bef st z0 z1 es (j + 1)).1 ≤ (bef st z0 z1 es (j + 1)).2) ∧
    Bx wr w.heap.size 26 #[.int .i64 st, .int .i64 z0, .int .i64 z1, .slice A n c] ∧ Bx wr (w.heap.size + 1) 91 (zarr fun _ => (0, 0)) ∧ Bx wr (w.heap.size + 1 + 1) 91 (zarr (kn st z0 z1 es k)) ∧
    Bx wr (w.heap.size + 1 + 1 + 1) 23 #[.int .i64 (bef st z0 z1 es k).1, .int .i64 (bef st z0 z1 es k).2] ∧ Below w.heap.size w wr
set_option maxRecDepth 100000 in
set_option maxHeartbeats 1000000 in
theorem reachable_any (st z0 z1 : Int) (A : Option Addr) (n c : Nat) (es : List Ev) (w : World) (hok : LogOk st z0 z1 es) (hl : es.length = n) (hA : EvsAt w w.heap.size A es) :
    Calls Try.prog 61 #[.agg #[.int .i64 st, .int .i64 z0, .int .i64 z1, .slice A n c]] w (ReachPost st z0 z1 es w) := by
  have hn : n ≤ 14 := by rw [← hl]; exact hok.n
  have HL := Lib.hid hl
  clear hl
  have hs1 := hok.s1
  have hs2 := hok.s2
  go_enter Try.func61, Try.ntmps61
  go_wp2_with fail
  go_loopw [13] (LI st z0 z1 es A n c w) (fun i _ => n - (intOf i).toNat)
  case atStart =>
    have z0e := zarr0
    refine ⟨0, by omega, rfl, fun j hj => by omega, (((Bx.new w 26 _).alloc _).alloc _).alloc _, ?_, ?_, Bx.at _ _ _ (by simp), ?_⟩
    · rw [z0e]; exact ((Bx.at _ _ _ (by simp)).alloc _).alloc _
    · rw [show kn st z0 z1 es 0 = fun _ => (0, 0) from by funext i; simp [kn], z0e]; exact (Bx.at _ _ _ (by simp)).alloc _
    · repeat (first | exact Below.refl _ _ | refine Below.alloc ?_ (by simp; try omega) _)
  case round =>
    obtain ⟨k, hk, rfl, hy, k1, k2, k3, k4, hB⟩ := hrel
    obtain ⟨a0, a1, a2, a3, af, az⟩ := k1.four
    obtain ⟨d0, d1, df, dz⟩ := k4.two
    by_cases hkn : k < n
    · have hke : k < es.length := by rw [HL.out]; exact hkn
      obtain ⟨ad, rfl, _, q0, q1, q2, q3, q4⟩ := (hA.below hB).at_ hke
      have hbs := bef_succ (st := st) (z0 := z0) (z1 := z1) hke
      have he := hok.ev _ (List.getElem_mem hke)
      generalize es[k] = e at *
      have hlo := bef_lo hok k
      have hnx : (bef st z0 z1 es k).1 ≤ (bef st z0 z1 es k).2 := by
        cases k with
        | zero => exact hok.r2
        | succ k => exact hy k (by omega)
      have HBS : Hid (bef st z0 z1 es (k + 1) = (max ((bef st z0 z1 es k).1 + e.c0) (sLo st e), min ((bef st z0 z1 es k).2 + e.c1) (sHi st e))) := by unfold Hid; rw [hbs]; rfl
      clear hbs
      have HY := Lib.hid hy
      clear hy hA hok
      obtain ⟨hc1, hc2, hc3⟩ := And.intro he.c1 (And.intro he.c2 he.c3)
      have HE := Lib.hid he
      clear he
      obtain ⟨hl1, hl2⟩ := hlo
      generalize (bef st z0 z1 es k).1 = x at *
      generalize (bef st z0 z1 es k).2 = y at *
      go_wp2_with fail
      refine AnyG.start (fun w' : World => w'.cell? ⟨w.heap.size, 0, none⟩ = some (.int .i64 st) ∧ w'.cell? ⟨w.heap.size + 1 + 1 + 1, 0, none⟩ = some (.int .i64 x) ∧ w'.cell? ⟨w.heap.size + 1 + 1 + 1, 1, none⟩ = some (.int .i64 y) ∧ w'.cell? ⟨wr.heap.size, 0, none⟩ = some (.int .i64 e.kd) ∧ w'.cell? ⟨wr.heap.size, 1, none⟩ = some (.int .i64 e.sh) ∧ w'.cell? ⟨wr.heap.size, 2, none⟩ = some (.int .i64 e.ld) ∧ w'.cell? ⟨wr.heap.size, 3, none⟩ = some (.int .i64 e.c0) ∧ w'.cell? ⟨wr.heap.size, 4, none⟩ = some (.int .i64 e.c1)) (fun i => i != 9) (by kernel_rfl) ?_
      have hS : (fun w' : World => w'.cell? ⟨w.heap.size, 0, none⟩ = some (.int .i64 st) ∧ w'.cell? ⟨w.heap.size + 1 + 1 + 1, 0, none⟩ = some (.int .i64 x) ∧ w'.cell? ⟨w.heap.size + 1 + 1 + 1, 1, none⟩ = some (.int .i64 y) ∧ w'.cell? ⟨wr.heap.size, 0, none⟩ = some (.int .i64 e.kd) ∧ w'.cell? ⟨wr.heap.size, 1, none⟩ = some (.int .i64 e.sh) ∧ w'.cell? ⟨wr.heap.size, 2, none⟩ = some (.int .i64 e.ld) ∧ w'.cell? ⟨wr.heap.size, 3, none⟩ = some (.int .i64 e.c0) ∧ w'.cell? ⟨wr.heap.size, 4, none⟩ = some (.int .i64 e.c1)) (World.drew (wr.alloc (.cells #[.int .i64 e.kd, .int .i64 e.sh, .int .i64 e.ld, .int .i64 e.c0, .int .i64 e.c1] 28))) := by
        (try dsimp only)
        first | (go_keep; done) | (go_simp; done)
      refine AnyG.take (i := 0) (v := ?_) rfl (by kernel_rfl) (fun _ _ _ h => h) rfl ?_ hS ?_
      rotate_left
      · (intro w hSw; (try dsimp only at hSw); go_split_ands; go_simp; try with_reducible rfl)
      try simp only [Act.put, List.setIfInBounds_toArray, List.set_cons_zero, List.set_cons_succ]
      refine AnyG.take (i := 1) (v := ?_) rfl (by kernel_rfl) (fun _ _ _ h => h) rfl ?_ hS ?_
      rotate_left
      · (intro w hSw; (try dsimp only at hSw); go_split_ands; go_simp; try with_reducible rfl)
      try simp only [Act.put, List.setIfInBounds_toArray, List.set_cons_zero, List.set_cons_succ]
      refine AnyG.take (i := 2) (v := ?_) rfl (by kernel_rfl) (fun _ _ _ h => h) rfl ?_ hS ?_
      rotate_left
      · (intro w hSw; (try dsimp only at hSw); go_split_ands; go_simp; try with_reducible rfl)
      try simp only [Act.put, List.setIfInBounds_toArray, List.set_cons_zero, List.set_cons_succ]
      refine AnyG.take (i := 4) (v := ?_) rfl (by kernel_rfl) (fun _ _ _ h => h) rfl ?_ hS ?_
      rotate_left
      · (intro w hSw; (try dsimp only at hSw); go_split_ands; go_simp; try with_reducible rfl)
      try simp only [Act.put, List.setIfInBounds_toArray, List.set_cons_zero, List.set_cons_succ]
      refine AnyG.take (i := 5) (v := ?_) rfl (by kernel_rfl) (fun _ _ _ h => h) rfl ?_ hS ?_
      rotate_left
      · (intro w hSw; (try dsimp only at hSw); go_split_ands; go_simp; try with_reducible rfl)
      try simp only [Act.put, List.setIfInBounds_toArray, List.set_cons_zero, List.set_cons_succ]
      refine AnyG.take (i := 6) (v := ?_) rfl (by kernel_rfl) (fun _ _ _ h => h) rfl ?_ hS ?_
      rotate_left
      · (intro w hSw; (try dsimp only at hSw); go_split_ands; go_simp; try with_reducible rfl)
      try simp only [Act.put, List.setIfInBounds_toArray, List.set_cons_zero, List.set_cons_succ]
      refine AnyG.one (i := 3) (by kernel_rfl) rfl rfl ?_
      clear hS
      go_simp
      refine (plus_any _ _ _ _ _ (by omega) (by omega) (by omega) (by omega) (by omega) (by omega) (by omega) (by omega)).mono ?_; rintro r w1 ⟨rfl, hb1⟩; have p1 := (k1.alloc _).drew.call hb1; have p3 := (k3.alloc _).drew.call hb1; have p4 := (k4.alloc _).drew.call hb1; have p7 := (Bx.new wr 28 _).drew.call hb1
      obtain ⟨a0, a1, a2, a3, af, az⟩ := p1.four
      obtain ⟨d0, d1, df, dz⟩ := p4.two
      obtain ⟨g0, g1, g2, g3, g4, gf, gz⟩ := p7.five
      refine Onward.on ⟨a0, d0, d1, g0, g1, g2, g3, g4⟩ (fun hS => ?_)
      try simp only [Act.put, List.setIfInBounds_toArray, List.set_cons_zero, List.set_cons_succ]
      refine AnyG.one (i := 7) (by kernel_rfl) rfl rfl ?_
      clear hS
      go_simp
      refine (shownZeros_ev st e _ hs1 hs2 HE.out).mono ?_; rintro r w2 ⟨rfl, hb2⟩; replace p1 := p1.call hb2; replace p3 := p3.call hb2; replace p4 := p4.call hb2; replace p7 := p7.call hb2
      obtain ⟨a0, a1, a2, a3, af, az⟩ := p1.four
      obtain ⟨d0, d1, df, dz⟩ := p4.two
      obtain ⟨g0, g1, g2, g3, g4, gf, gz⟩ := p7.five
      refine Onward.on ⟨a0, d0, d1, g0, g1, g2, g3, g4⟩ (fun hS => ?_)
      try simp only [Act.put, List.setIfInBounds_toArray, List.set_cons_zero, List.set_cons_succ]
      refine AnyG.one (i := 8) (by kernel_rfl) rfl rfl ?_
      clear hS
      go_simp
      refine (meet_any _ _ _ _ _).mono ?_; rintro r w3 ⟨rfl, hb3⟩; replace p1 := p1.call hb3; replace p3 := p3.call hb3; replace p4 := p4.call hb3; replace p7 := p7.call hb3
      obtain ⟨a0, a1, a2, a3, af, az⟩ := p1.four
      obtain ⟨d0, d1, df, dz⟩ := p4.two
      obtain ⟨g0, g1, g2, g3, g4, gf, gz⟩ := p7.five
      refine Onward.on ⟨a0, d0, d1, g0, g1, g2, g3, g4⟩ (fun hS => ?_)
      try simp only [Act.put, List.setIfInBounds_toArray, List.set_cons_zero, List.set_cons_succ]
      refine AnyG.one (i := 9) (by kernel_rfl) rfl rfl ?_
      clear hS
      go_simp
      refine Onward.last rfl (AnyG.done (by kernel_rfl) ?_ _)
      have p4' := (p4.set_ 0 (.int .i64 (max (x + e.c0) (sLo st e)))).set_ 1 (.int .i64 (min (y + e.c1) (sHi st e)))
      simp only [List.setIfInBounds_toArray, List.set_cons_zero, List.set_cons_succ] at p4'
      have p3' := (p3.far (p := ⟨w.heap.size + 1 + 1 + 1, 0, none⟩) (by simp <;> omega) (.int .i64 (max (x + e.c0) (sLo st e)))).far (p := ⟨w.heap.size + 1 + 1 + 1, 1, none⟩) (by simp <;> omega) (.int .i64 (min (y + e.c1) (sHi st e)))
      have p2' := (((((k2.alloc _).drew.call hb1).call hb2).call hb3).far (p := ⟨w.heap.size + 1 + 1 + 1, 0, none⟩) (by simp <;> omega) (.int .i64 (max (x + e.c0) (sLo st e)))).far (p := ⟨w.heap.size + 1 + 1 + 1, 1, none⟩) (by simp <;> omega) (.int .i64 (min (y + e.c1) (sHi st e)))
      have p1' := (p1.far (p := ⟨w.heap.size + 1 + 1 + 1, 0, none⟩) (by simp <;> omega) (.int .i64 (max (x + e.c0) (sLo st e)))).far (p := ⟨w.heap.size + 1 + 1 + 1, 1, none⟩) (by simp <;> omega) (.int .i64 (min (y + e.c1) (sHi st e)))
      have hB3 : Below w.heap.size w (World.setCell (World.setCell w3 ⟨w.heap.size + 1 + 1 + 1, 0, none⟩ (.int .i64 (max (x + e.c0) (sLo st e)))) ⟨w.heap.size + 1 + 1 + 1, 1, none⟩ (.int .i64 (min (y + e.c1) (sHi st e)))) := by
        refine Below.setCell (Below.setCell (hB.trans ((((Below.refl _ _).alloc hB.size _).drew.trans (hb1.mono (by simp; have := hB.size; omega))).trans ((hb2.mono ?_).trans (hb3.mono ?_)))) (by simp; omega) _) (by simp; omega) _
        · have := hb1.size; simp at this; have := hB.size; omega
        · have := hb1.size; simp at this; have := hb2.size; have := hB.size; omega
      generalize hw4 : World.setCell (World.setCell w3 _ _) _ _ = w4 at *
      clear hw4 p1 p3 p4 p7 hb1 hb2 hb3 hB k1 k2 k3 k4
      obtain ⟨a0, a1, a2, a3, af, az⟩ := p1'.four
      obtain ⟨d0, d1, df, dz⟩ := p4'.two
      by_cases hem : min (y + e.c1) (sHi st e) < max (x + e.c0) (sLo st e)
      · go_upto_region 8 with fail
        refine wp_region_lit ?_
        refine wpList_load_row rfl 91 (.tmp 4) rfl (w.heap.size + 1 + 1) rfl 91 _ (0, 0) _ p3' Try.underlying91 rfl (by rw [zarr_size]; kernel_rfl) ?_
        go_wp2_with ((with_reducible (show wpList _ _ _ (⟨none, .store 91 _ _, _, _, _, _⟩ :: _) _ _)); refine wpList_store_row rfl 91 (.tmp 2) (.tmp 32) rfl (w.heap.size + 1) _ rfl rfl 91 _ p2' (by rw [zarr_size]; kernel_rfl) (by rw [zarr_size, zarr_size]) (zarr_one _) ?_)
        refine bodyPost_ret (results_row_tmp (cs := zarr (kn st z0 z1 es k)) rfl rfl p2'.row Try.underlying91 rfl (by rw [zarr_size]; kernel_rfl)) rfl ⟨⟨k, ⟨by omega, HY.out, fun _ => by rw [HBS.out]; exact hem⟩, rfl⟩, ?_⟩
        exact ⟨hB3.os, hB3.tape, hB3.output, by simpa [World.setRow] using hB3.size, fun i hi => by
          have := hB3.block i hi
          simp only [World.setRow, Array.getElem?_modify]
          rw [if_neg (by omega)]; exact this⟩
      · have e0 := (p3'.cell (k * 2)).trans (zarr_fst _ (by omega))
        have e1 := (p3'.cell (k * 2 + 1)).trans (zarr_snd _ (by omega))
        have e2 := p3'.free
        have e3 := p3'.lt
        go_wp2_with fail
        have hb1 : bef st z0 z1 es (k + 1) = (max (x + e.c0) (sLo st e), min (y + e.c1) (sHi st e)) := HBS.out
        go_roundw
        case rel =>
          refine ⟨k + 1, by omega, by go_num, fun j hj => ?_, (p1'.far (by simp; omega) _).far (by simp; omega) _, (p2'.far (by simp) _).far (by simp) _, ?_, ?_, ?_⟩
          · rcases Nat.lt_or_ge j k with h | h
            · exact HY.out j h
            · obtain rfl : j = k := by omega
              rw [hb1]; simpa using hem
          · have := (p3'.set_ (k * 2) (.int .i64 (max (x + e.c0) (sLo st e)))).set_ (k * 2 + 1) (.int .i64 (min (y + e.c1) (sHi st e)))
            rw [zarr_set _ (by omega), ← hb1, kn_upd] at this
            exact this
          · rw [hb1]; exact (p4'.far (by simp) _).far (by simp) _
          · exact (hB3.setCell (by simp; omega) _).setCell (by simp; omega) _
        case measure => simp [intOf]; omega
    · obtain rfl : k = n := by omega
      have hfit : Fits st z0 z1 es k := ⟨by rw [HL.out]; exact Nat.le_refl _, hy, fun h => absurd h (by rw [HL.out]; omega)⟩
      have HF := Lib.hid hfit
      clear hfit hy hA
      go_wp2_with fail
      refine AnyG.start (fun w' : World => w'.cell? ⟨w.heap.size, 3, none⟩ = some (.slice A k c) ∧ Bx w' (w.heap.size + 1 + 1) 91 (zarr (kn st z0 z1 es k))) (fun _ => true) (by kernel_rfl) ?_
      have hS : (fun w' : World => w'.cell? ⟨w.heap.size, 3, none⟩ = some (.slice A k c) ∧ Bx w' (w.heap.size + 1 + 1) 91 (zarr (kn st z0 z1 es k))) (World.drew wr) := ⟨a3, k3.drew⟩
      refine AnyG.take (i := 0) (v := .agg (zarr (kn st z0 z1 es k))) rfl (by kernel_rfl) (fun _ _ _ h => h) rfl ?_ hS ?_
      · exact fun w' hSw => run_load_bx 91 (.tmp 4) rfl _ rfl 91 _ _ hSw.2 Try.underlying91 rfl (by rw [zarr_size]; kernel_rfl)
      try simp only [Act.put, List.setIfInBounds_toArray, List.set_cons_zero, List.set_cons_succ]
      refine AnyG.take (i := 1) (v := ?_) rfl (by kernel_rfl) (fun _ _ _ h => h) rfl ?_ hS ?_
      rotate_left
      · (intro w hSw; (try dsimp only at hSw); go_split_ands; go_simp; try with_reducible rfl)
      try simp only [Act.put, List.setIfInBounds_toArray, List.set_cons_zero, List.set_cons_succ]
      refine AnyG.take (i := 2) (v := ?_) rfl (by kernel_rfl) (fun _ _ _ h => h) rfl ?_ hS ?_
      rotate_left
      · (intro w hSw; (try dsimp only at hSw); go_split_ands; go_simp; try with_reducible rfl)
      try simp only [Act.put, List.setIfInBounds_toArray, List.set_cons_zero, List.set_cons_succ]
      refine AnyG.take (i := 3) (v := ?_) rfl (by kernel_rfl) (fun _ _ _ h => h) rfl ?_ hS ?_
      rotate_left
      · (intro w hSw; (try dsimp only at hSw); go_split_ands; go_simp; try with_reducible rfl)
      try simp only [Act.put, List.setIfInBounds_toArray, List.set_cons_zero, List.set_cons_succ]
      refine AnyG.one (i := 4) (by kernel_rfl) rfl rfl ?_
      refine wp_store_row 91 (.tmp 2) (.tmp 38) rfl (w.heap.size + 1) _ rfl rfl 91 _ k2.drew (by rw [zarr_size]; kernel_rfl) (by rw [zarr_size, zarr_size]) (zarr_one _) ?_
      refine Onward.on ⟨by rw [(k1.drew.rowfar (by omega)).cell]; rfl, k3.drew.rowfar (by omega)⟩ (fun hS => ?_)
      try simp only [Act.put, List.setIfInBounds_toArray, List.set_cons_zero, List.set_cons_succ]
      refine AnyG.one (i := 5) (by kernel_rfl) rfl rfl ?_
      have HS := Lib.hid hS
      clear hS
      go_simp
      refine Onward.on HS.out (fun _ => ?_)
      refine AnyG.done (by kernel_rfl) ?_ _
      go_wp2_with fail
      refine bodyPost_ret (results_row_tmp (cs := zarr (kn st z0 z1 es k)) rfl rfl k2.drew.row Try.underlying91 rfl (by rw [zarr_size]; kernel_rfl)) rfl ⟨⟨k, HF.out, rfl⟩, ?_⟩
      exact hB.drew.setRow (by omega) _
end Go.Proofs.Ytgbogdckmfencaa
