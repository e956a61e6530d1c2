/- BridgeDriver: what a driver counts for. -/
import Derived.Test.YtgbogdckmfencaaSlip
import Derived.Test.YtgbogdckmfencaaFi
import Derived.Test.YtgbogdckmfencaaAk
import Derived.Deep.CutBlock
set_option linter.unusedSimpArgs false
set_option linter.unusedVariables false
namespace Go.Proofs.Ytgbogdckmfencaa
open Go Go.RowKit
theorem own_evs {w : World} {b n c : Nat} {A : Option Addr} {es : List Ev} (h : w.ownsRow b 28 5 (.slice A n c) n (es.map Ev.cells).flatten) (hl : es.length = n) : EvsAt w w.heap.size A es := by
  obtain ⟨A', c', he, hs⟩ := own_sl h (evs_len es) (by rw [List.length_map]; exact hl)
  simp only [Value.slice.injEq] at he
  rw [he.1]
  exact hs
set_option maxRecDepth 100000 in
set_option maxHeartbeats 8000000 in
theorem driver_run (A : Option Addr) (n c : Nat) (L : List Int) (w : World) (hn : n ≤ 9000000000000000000) (hl : L.length = n) (hA : Sl w w.heap.size 1 A (ints L)) : Calls Try.prog 10 #[.slice A n c] w fun e w' => e = .returned (.bool true) ∧ Below w.heap.size w w' := by
  have HL := Lib.hid hl
  clear hl
  go_enter Try.func10, Try.ntmps10
  go_upto_region 3 with (first
    | (go_at_call 16; refine (feedOf_any A n c L _ hn HL.out hA).mono ?_; rintro e w1 ⟨⟨g, rfl, hg0, hfd⟩, hb1⟩)
    | (go_at_call 15; refine (logOf_any g 8 60 false _ hfd (by omega) (by omega) (by omega) (by omega)).mono ?_; rintro e w2 ⟨st, z0, z1, ts, z, ev, zv, nv, rfl, ⟨hs1, hs2, -, hz0, hz01, hz1⟩, hmd, hlen, hoe, hoz, hon, -, hfd2, hgr2⟩; obtain ⟨EA, EC, rfl⟩ := own_shape hoe; obtain ⟨ZA, ZC, rfl⟩ := own_shape hoz; obtain ⟨NA, NC, rfl⟩ := own_shape hon)
    | fail)
  have hBw : Below w.heap.size w w2 := hb1.grown hgr2 hb1.size (fun k e => by cases e; exact hg0)
  have hgl2 := hfd2.lt
  obtain ⟨k, hk⟩ : ∃ k, ts.length = k := ⟨_, rfl⟩
  have hck := hmd.ck hs1 (by omega) hz0 hz01 hz1 (by omega) (by omega)
  have hfit := hmd.fit hs1 hz0 hz1 (by omega) (by omega)
  rw [hk] at hoe hlen hfit ⊢
  have hel : (evsOf ts).length = k := by rw [← hk]; simp [evsOf]
  obtain ⟨es, hes⟩ : ∃ x, evsOf ts = x := ⟨_, rfl⟩
  rw [hes] at hoe hck hfit hel
  have hO0 := ((ownsRow_up (b' := 0) hoe (fun q e => Nat.zero_le _)).alloc (.cells #[.int .i64 st, .int .i64 z0, .int .i64 z1, .slice EA k EC] 26)).alloc (.cells #[.slice ZA k ZC, .slice NA k NC] 32)
  have hE0 : EvsAt ((w2.alloc (.cells #[.int .i64 st, .int .i64 z0, .int .i64 z1, .slice EA k EC] 26)).alloc (.cells #[.slice ZA k ZC, .slice NA k NC] 32)) ((w2.alloc (.cells #[.int .i64 st, .int .i64 z0, .int .i64 z1, .slice EA k EC] 26)).alloc (.cells #[.slice ZA k ZC, .slice NA k NC] 32)).heap.size EA es := (((own_evs hoe hel).alloc (Nat.le_refl _) _).alloc (by simp) _).more (by simp; omega)
  have hf0 : Fd g ((w2.alloc (.cells #[.int .i64 st, .int .i64 z0, .int .i64 z1, .slice EA k EC] 26)).alloc (.cells #[.slice ZA k ZC, .slice NA k NC] 32)) := (hfd2.alloc _).alloc _
  have kL0 := (Bx.new w2 26 #[.int .i64 st, .int .i64 z0, .int .i64 z1, .slice EA k EC]).alloc (.cells #[.slice ZA k ZC, .slice NA k NC] 32)
  have hB0 := (hBw.alloc hBw.size (.cells #[.int .i64 st, .int .i64 z0, .int .i64 z1, .slice EA k EC] 26)).alloc (by have := hBw.size; simp; omega) (.cells #[.slice ZA k ZC, .slice NA k NC] 32)
  obtain ⟨V0, hV0⟩ : ∃ V, (w2.alloc (.cells #[.int .i64 st, .int .i64 z0, .int .i64 z1, .slice EA k EC] 26)).alloc (.cells #[.slice ZA k ZC, .slice NA k NC] 32) = V := ⟨_, rfl⟩
  rw [hV0] at hO0 hE0 hf0 kL0 hB0 ⊢
  obtain ⟨bL, hbL⟩ : ∃ b, w2.heap.size = b := ⟨_, rfl⟩
  have hgL : g ≠ bL := by omega
  rw [hbL] at kL0 ⊢
  have HCK := Lib.hid hck
  have HFIT := Lib.hid hfit
  have HEL := Lib.hid hel
  have hk14 : k ≤ 14 := by omega
  clear hoe hoz hon hfd hgr2 hmd hV0 hbL hes hk hck hfit hel hBw hfd2 hgl2 hb1
  obtain ⟨l0, l1, l2, l3, lf, lz⟩ := kL0.four
  go_upto_region 4 with (first
    | (go_at_call 26; refine (slipOf_any g st z0 z1 EA k EC es 3 _ hf0 HEL.out hk14 hE0 (by omega) (by omega)).mono ?_; rintro e V ⟨FA, fn, fc, BA, bn, bc, fs, bs, d0, d1, F, B, l, j, rfl, hFn, hBn, hF, hBs, -, hat, hsp, hfs, hbs, dr1, dr2, dr3, hfd, hgr⟩)
    | fail)
  have hE : EvsAt V V.heap.size EA es := by
    refine own_evs (hO0.kept hgr (.inr fun hk => ?_)) HEL.out
    obtain ⟨y, _, _, hy⟩ := hf0
    exact own_bx hO0 hy (by decide) hk.symm
  have kLV := kL0.grown hgr (by simpa using Ne.symm hgL)
  have hBV : Below w.heap.size w V := hB0.grown hgr hB0.size (fun k e => by cases e; exact hg0)
  have hbV := kLV.lt
  obtain ⟨ok, hok⟩ : ∃ b, (decide (0 < fn) && decide (0 < bn)) = b := ⟨_, rfl⟩
  rw [hok]
  have HOK := Lib.hid hok
  have HFN := Lib.hid hFn
  have HBN := Lib.hid hBn
  clear hok hO0 hE0 hf0 kL0 hB0 hgr hfd l0 l1 l2 l3 lf lz hFn hBn
  cases ok
  · go_wp2_with (first | (go_at_call 14; refine (awake_any _).mono ?_; rintro e x7 ⟨rfl, hq7⟩) | fail)
    go_ret
    exact ⟨rfl, (hBV.alloc hBV.size _).trans (hq7.mono (by have := hBV.size; simp; omega))⟩
  · have hok2 : 0 < fn ∧ 0 < bn := by simpa using HOK.out
    have hs00 : ∀ s2 s3, 0 ≤ s2 → s2 ≤ 2 → 0 ≤ s3 → s3 ≤ 2 → ckS st z0 z1 es F B s2 s3 d0 d1 = 0 := fun s2 s3 h1 h2 h3 h4 => ckS_made HCK.out hat hsp (by omega) (by rw [HFN.out]; omega) (by rw [HBN.out]; omega) h1 h2 h3 h4 (by omega) dr2 (by omega)
    have HS := Lib.hid hs00
    have hfn4 : fn ≤ 4 := by have := hsp.fl; rw [HFN.out] at this; omega
    have hbn4 : bn ≤ 4 := by have := hsp.bl; rw [HBN.out] at this; omega
    have HHAT := Lib.hid (And.intro hat hsp)
    clear hs00 hat hsp
    obtain ⟨N1, hN1⟩ : ∃ x, (netOf st es F B (zst st z0 z1 es 0) k).1 = x := ⟨_, rfl⟩
    obtain ⟨N2, hN2⟩ : ∃ x, (netOf st es F B (zst st z0 z1 es 0) k).2 = x := ⟨_, rfl⟩
    have HN := Lib.hid (And.intro hN1 hN2)
    have hNb := net_bd (ckL_zero HCK.out) F B (zst st z0 z1 es 0) k hk14
    unfold Bd at hNb
    rw [hN1, hN2] at hNb
    clear hN1 hN2
    have net : ∀ (s2 s3 : Int) (W : World), 0 ≤ s2 → s2 ≤ 2 → 0 ≤ s3 → s3 ≤ 2 → Below V.heap.size V W → Calls Try.prog 29 #[.agg #[.int .i64 st, .int .i64 z0, .int .i64 z1, .slice EA k EC], .agg #[.slice FA fn fc, .slice BA bn bc, .int .i64 s2, .int .i64 s3, .int .i64 d0, .int .i64 d1]] W fun e w' => e = .returned (.tuple #[.agg #[.int .i64 (N1 + dsLo s2 s3 d0 d1), .int .i64 (N2 + dsHi s2 s3 d0 d1)], .int .i64 0]) ∧ Below W.heap.size W w' := by
      intro s2 s3 W h1 h2 h3 h4 hW
      have := net_ok st z0 z1 EA k EC es FA fn fc BA bn bc s2 s3 d0 d1 F B W (by omega) HEL.out ((Sl.below hE hW).more hW.size) (by omega) (by omega) HFN.out HBN.out ((hF.below hW).more hW.size) ((hBs.below hW).more hW.size) (HS.out s2 s3 h1 h2 h3 h4) HFIT.out
      rw [HN.out.1, HN.out.2] at this
      exact this
    have NET := Lib.hid net
    clear net
    obtain ⟨l0, l1, l2, l3, lf, lz⟩ := kLV.four
    have hz1 : dsLo 0 0 d0 d1 = 0 := by unfold dsLo drLo drHi; simp
    have hz2 : dsHi 0 0 d0 d1 = 0 := by unfold dsHi drLo drHi; simp
    have HZ := Lib.hid (And.intro hz1 hz2)
    clear hz1 hz2
    have hBX : Below V.heap.size V (V.alloc (.cells #[.slice FA fn fc, .slice BA bn bc, .int .i64 0, .int .i64 0, .int .i64 d0, .int .i64 d1] 50)) := (Below.refl _ _).alloc (Nat.le_refl _) _
    have kSX := Bx.new V 50 #[.slice FA fn fc, .slice BA bn bc, .int .i64 0, .int .i64 0, .int .i64 d0, .int .i64 d1]
    go_wp2_with (first | (go_at_call 29; refine (NET.out 0 0 _ (by omega) (by omega) (by omega) (by omega) hBX).mono ?_; rintro e x1 ⟨rfl, hq1⟩; rw [HZ.out.1, HZ.out.2, Int.add_zero, Int.add_zero]) | fail)
    have hx1 := hq1.size
    have hBY := hBX.trans (hq1.mono hBX.size)
    have kSY := kSX.call hq1
    clear hBX kSX hq1
    have hVX : V.heap.size < x1.heap.size := kSY.lt
    have hbB : Below V.heap.size V (x1.alloc (.cells #[.int .i64 N1, .int .i64 N2] 23)) := hBY.alloc hBY.size _
    have kS0 := kSY.alloc (.cells #[.int .i64 N1, .int .i64 N2] 23)
    have kX0 := Bx.new x1 23 #[.int .i64 N1, .int .i64 N2]
    go_loopw [10] (fun v10 wr => ∃ (i : Nat) (u v : Int), v10 = .int .i64 i ∧ i ≤ 3 ∧ Bx wr V.heap.size 50 #[.slice FA fn fc, .slice BA bn bc, .int .i64 u, .int .i64 v, .int .i64 d0, .int .i64 d1] ∧ Bx wr x1.heap.size 23 #[.int .i64 N1, .int .i64 N2] ∧ Below V.heap.size V wr) (fun v10 _ => 3 - (intOf v10).toNat)
    case atStart => exact ⟨0, 0, 0, rfl, by omega, kS0, kX0, hbB⟩
    case round =>
      clear kS0 kX0 hbB l0 l1 l2 l3 lf lz kSY hBY
      obtain ⟨i, u, v, rfl, hi, kS, kX, hB⟩ := hrel
      by_cases hi3 : i < 3
      · go_wp2_with fail
        go_loopw [11] (fun v11 wr => ∃ (j : Nat) (u v : Int), v11 = .int .i64 j ∧ j ≤ 3 ∧ Bx wr V.heap.size 50 #[.slice FA fn fc, .slice BA bn bc, .int .i64 u, .int .i64 v, .int .i64 d0, .int .i64 d1] ∧ Bx wr x1.heap.size 23 #[.int .i64 N1, .int .i64 N2] ∧ Below V.heap.size V wr) (fun v11 _ => 3 - (intOf v11).toNat)
        case atStart => exact ⟨0, u, v, rfl, by omega, kS, kX, hB⟩
        case round =>
          clear kS kX hB
          obtain ⟨j, u, v, rfl, hj, kS, kX, hB⟩ := hrel
          by_cases hj3 : j < 3
          · have hc1 : i = 0 ∨ i = 1 ∨ i = 2 := by omega
            have hc2 : j = 0 ∨ j = 1 ∨ j = 2 := by omega
            obtain ⟨l0, l1, l2, l3, lf, lz⟩ := (kLV.below hB hbV).four
            have hbV2 := kLV.lt
            rcases hc1 with rfl | rfl | rfl <;> rcases hc2 with rfl | rfl | rfl
            · have hlo : dsLo 0 0 d0 d1 = 0 := by unfold dsLo drLo drHi; simp
              have hhi : dsHi 0 0 d0 d1 = 0 := by unfold dsHi drLo drHi; simp
              have HW := Lib.hid (And.intro (IntWalk.i64_in N1 (by omega)) (IntWalk.i64_in N2 (by omega)))
              have HLO := Lib.hid (And.intro hlo hhi)
              clear hlo hhi
              have kW : Bx (World.setCell (World.setCell wr ⟨V.heap.size, 2, none⟩ (.int .i64 0)) ⟨V.heap.size, 3, none⟩ (.int .i64 0)) V.heap.size 50 #[.slice FA fn fc, .slice BA bn bc, .int .i64 0, .int .i64 0, .int .i64 d0, .int .i64 d1] := by simpa using (kS.set_ 2 (.int .i64 0)).set_ 3 (.int .i64 0)
              have kXW : Bx (World.setCell (World.setCell wr ⟨V.heap.size, 2, none⟩ (.int .i64 0)) ⟨V.heap.size, 3, none⟩ (.int .i64 0)) x1.heap.size 23 #[.int .i64 N1, .int .i64 N2] := (kX.far (by simp; omega) _).far (by simp; omega) _
              have hBW : Below V.heap.size V (World.setCell (World.setCell wr ⟨V.heap.size, 2, none⟩ (.int .i64 0)) ⟨V.heap.size, 3, none⟩ (.int .i64 0)) := (hB.setCell (by simp) _).setCell (by simp) _
              obtain ⟨s0, s1, s2, s3, s4, s5, sf, sz⟩ := kS.six
              go_upto_region 27 with (first | (go_at_call 29; refine (NET.out 0 0 _ (by omega) (by omega) (by omega) (by omega) hBW).mono ?_; rintro e y1 ⟨rfl, hq⟩; rw [HLO.out.1, HLO.out.2]; have kS2 := kW.call hq; have kX2 := kXW.call hq; have hB2 := hBW.trans (hq.mono hBW.size); clear s0 s1 s2 s3 s4 s5 sf sz; obtain ⟨s0, s1, s2, s3, s4, s5, sf, sz⟩ := kS2.six) | fail)
              have k12 := Bx.new y1 23 #[.int .i64 N1, .int .i64 N2]
              have kS3 := kS2.alloc (.cells #[.int .i64 N1, .int .i64 N2] 23)
              have kX3 := kX2.alloc (.cells #[.int .i64 N1, .int .i64 N2] 23)
              have hB3 := hB2.alloc hB2.size (.cells #[.int .i64 N1, .int .i64 N2] 23)
              obtain ⟨Y, hY⟩ : ∃ Y, y1.alloc (.cells #[.int .i64 N1, .int .i64 N2] 23) = Y := ⟨_, rfl⟩
              rw [hY] at k12 kS3 kX3 hB3 ⊢
              clear hY kS2 kX2 hB2 kW kXW hBW s0 s1 s2 s3 s4 s5 sf sz l0 l1 l2 l3 lf lz
              refine AnyG.start (fun w' : World => Below Y.heap.size Y w') (fun i => true) (by kernel_rfl) ?_
              have hS : (fun w' : World => Below Y.heap.size Y w') (World.drew _) := (Below.refl _ _).drew
              refine AnyG.take (i := 0) (v := ?_) rfl (by kernel_rfl) (fun _ _ _ h => h) rfl ?_ hS ?_
              rotate_left
              · (intro w' hSw; (try dsimp only at hSw); go_simp; try with_reducible rfl)
              try simp only [Act.put, List.getElem_toArray, List.getElem_cons_succ, List.getElem_cons_zero, List.setIfInBounds_toArray, List.set_cons_zero, List.set_cons_succ]
              refine AnyG.take (i := 1) (v := ?_) rfl (by kernel_rfl) (fun _ _ _ h => h) rfl ?_ hS ?_
              rotate_left
              · (intro w' hSw; (try dsimp only at hSw); go_simp; try with_reducible rfl)
              try simp only [Act.put, List.getElem_toArray, List.getElem_cons_succ, List.getElem_cons_zero, List.setIfInBounds_toArray, List.set_cons_zero, List.set_cons_succ]
              refine AnyG.take (i := 2) (v := ?_) rfl (by kernel_rfl) (fun _ _ _ h => h) rfl ?_ hS ?_
              rotate_left
              · (intro w' hSw; (try dsimp only at hSw); go_simp; try with_reducible rfl)
              try simp only [Act.put, List.getElem_toArray, List.getElem_cons_succ, List.getElem_cons_zero, List.setIfInBounds_toArray, List.set_cons_zero, List.set_cons_succ]
              refine AnyG.takeG (i := 3) (v := ?_) rfl (by kernel_rfl) (fun _ _ _ h => h) (by simp [Region.wanted, yielded]) ?_ hS ?_
              rotate_left
              · (intro w' hSw; (try dsimp only at hSw); obtain ⟨r0, r1, rf, rz⟩ := (k12.call hSw).two; go_simp; (try simp only [HW.out.1, HW.out.2, if_true]); try with_reducible rfl)
              try simp only [Act.put, List.getElem_toArray, List.getElem_cons_succ, List.getElem_cons_zero, List.setIfInBounds_toArray, List.set_cons_zero, List.set_cons_succ]
              refine AnyG.takeG (i := 4) (v := ?_) rfl (by kernel_rfl) (fun _ _ _ h => h) (by simp [Region.wanted, yielded]) ?_ hS ?_
              rotate_left
              · (intro w' hSw; (try dsimp only at hSw); go_simp; (try simp only [HW.out.1, HW.out.2, if_true]); try with_reducible rfl)
              try simp only [Act.put, List.getElem_toArray, List.getElem_cons_succ, List.getElem_cons_zero, List.setIfInBounds_toArray, List.set_cons_zero, List.set_cons_succ]
              refine AnyG.takeG (i := 5) (v := ?_) rfl (by kernel_rfl) (fun _ _ _ h => h) (by simp [Region.wanted, yielded]) ?_ hS ?_
              rotate_left
              · (intro w' hSw; (try dsimp only at hSw); obtain ⟨r0, r1, rf, rz⟩ := (kX3.call hSw).two; go_simp; (try simp only [HW.out.1, HW.out.2, if_true]); try with_reducible rfl)
              try simp only [Act.put, List.getElem_toArray, List.getElem_cons_succ, List.getElem_cons_zero, List.setIfInBounds_toArray, List.set_cons_zero, List.set_cons_succ]
              refine AnyG.takeG (i := 6) (v := ?_) rfl (by kernel_rfl) (fun _ _ _ h => h) (by simp [Region.wanted, yielded]) ?_ hS ?_
              rotate_left
              · (intro w' hSw; (try dsimp only at hSw); go_simp; (try simp only [HW.out.1, HW.out.2, if_true]); try with_reducible rfl)
              try simp only [Act.put, List.getElem_toArray, List.getElem_cons_succ, List.getElem_cons_zero, List.setIfInBounds_toArray, List.set_cons_zero, List.set_cons_succ]
              refine AnyG.takeG (i := 7) (v := ?_) rfl (by kernel_rfl) (fun _ _ _ h => h) (by simp [Region.wanted, yielded]) ?_ hS ?_
              rotate_left
              · (intro w' hSw; (try dsimp only at hSw); go_simp; (try simp only [HW.out.1, HW.out.2, if_true]); try with_reducible rfl)
              try simp only [Act.put, List.getElem_toArray, List.getElem_cons_succ, List.getElem_cons_zero, List.setIfInBounds_toArray, List.set_cons_zero, List.set_cons_succ]
              refine AnyG.takeG (i := 8) (v := ?_) rfl (by kernel_rfl) (fun _ _ _ h => h) (by simp [Region.wanted, yielded]) ?_ hS ?_
              rotate_left
              · (intro w' hSw; (try dsimp only at hSw); go_simp; (try simp only [HW.out.1, HW.out.2, if_true]); try with_reducible rfl)
              try simp only [Act.put, List.getElem_toArray, List.getElem_cons_succ, List.getElem_cons_zero, List.setIfInBounds_toArray, List.set_cons_zero, List.set_cons_succ]
              refine AnyG.takeG (i := 9) (v := ?_) rfl (by kernel_rfl) (fun _ _ _ h => h) (by simp [Region.wanted, yielded]) ?_ hS ?_
              rotate_left
              · (intro w' hSw; (try dsimp only at hSw); obtain ⟨r0, r1, rf, rz⟩ := (kX3.call hSw).two; go_simp; (try simp only [HW.out.1, HW.out.2, if_true]); try with_reducible rfl)
              try simp only [Act.put, List.getElem_toArray, List.getElem_cons_succ, List.getElem_cons_zero, List.setIfInBounds_toArray, List.set_cons_zero, List.set_cons_succ]
              refine AnyG.takeG (i := 10) (v := ?_) rfl (by kernel_rfl) (fun _ _ _ h => h) (by simp [Region.wanted, yielded]) ?_ hS ?_
              rotate_left
              · (intro w' hSw; (try dsimp only at hSw); go_simp; (try simp only [HW.out.1, HW.out.2, if_true]); try with_reducible rfl)
              try simp only [Act.put, List.getElem_toArray, List.getElem_cons_succ, List.getElem_cons_zero, List.setIfInBounds_toArray, List.set_cons_zero, List.set_cons_succ]
              refine AnyG.takeG (i := 11) (v := ?_) rfl (by kernel_rfl) (fun _ _ _ h => h) (by simp [Region.wanted, yielded]) ?_ hS ?_
              rotate_left
              · (intro w' hSw; (try dsimp only at hSw); go_simp; (try simp only [HW.out.1, HW.out.2, if_true]); try with_reducible rfl)
              try simp only [Act.put, List.getElem_toArray, List.getElem_cons_succ, List.getElem_cons_zero, List.setIfInBounds_toArray, List.set_cons_zero, List.set_cons_succ]
              refine AnyG.oneG (i := 12) (by kernel_rfl) rfl (by simp [Region.wanted, yielded]) ?_
              go_simp
              refine (rng_any _ _ _).mono ?_
              rintro e y2 ⟨rfl, hr⟩
              have hS2 : Below Y.heap.size Y y2 := Below.trans hS (hr.mono hS.size)
              clear hS hr
              refine Onward.on hS2 (fun hS => ?_)
              clear hS2
              try simp only [Act.put, List.getElem_toArray, List.getElem_cons_succ, List.getElem_cons_zero, List.setIfInBounds_toArray, List.set_cons_zero, List.set_cons_succ]
              refine AnyG.takeG (i := 13) (v := ?_) rfl (by kernel_rfl) (fun _ _ _ h => h) (by simp [Region.wanted, yielded]) ?_ hS ?_
              rotate_left
              · (intro w' hSw; (try dsimp only at hSw); go_simp; (try simp only [HW.out.1, HW.out.2, if_true]); try with_reducible rfl)
              try simp only [Act.put, List.getElem_toArray, List.getElem_cons_succ, List.getElem_cons_zero, List.setIfInBounds_toArray, List.set_cons_zero, List.set_cons_succ]
              refine AnyG.take (i := 14) (v := ?_) rfl (by kernel_rfl) (fun _ _ _ h => h) rfl ?_ hS ?_
              rotate_left
              · (intro w' hSw; (try dsimp only at hSw); go_simp; try with_reducible rfl)
              try simp only [Act.put, List.getElem_toArray, List.getElem_cons_succ, List.getElem_cons_zero, List.setIfInBounds_toArray, List.set_cons_zero, List.set_cons_succ]
              refine AnyG.done (by kernel_rfl) ?_ _
              go_simp
              go_wp2_with fail
              go_roundw
              case rel =>
                repeat (refine Exists.intro ?_ ?_; rotate_left)
                refine And.intro ?_ ?_
                rotate_left
                · rfl
                exact ⟨1, 0, 0, by go_num, by omega, kS3.call hS, kX3.call hS, hB3.trans (hS.mono hB3.size)⟩
              case measure => simp [intOf]
            · have hlo : dsLo 0 1 d0 d1 = d0 := by unfold dsLo drLo drHi; simp <;> omega
              have hhi : dsHi 0 1 d0 d1 = d1 := by unfold dsHi drLo drHi; simp <;> omega
              have HW := Lib.hid (And.intro (IntWalk.i64_in (N1 + d0) (by omega)) (IntWalk.i64_in (N2 + d1) (by omega)))
              have HLO := Lib.hid (And.intro hlo hhi)
              clear hlo hhi
              have kW : Bx (World.setCell (World.setCell wr ⟨V.heap.size, 2, none⟩ (.int .i64 0)) ⟨V.heap.size, 3, none⟩ (.int .i64 1)) V.heap.size 50 #[.slice FA fn fc, .slice BA bn bc, .int .i64 0, .int .i64 1, .int .i64 d0, .int .i64 d1] := by simpa using (kS.set_ 2 (.int .i64 0)).set_ 3 (.int .i64 1)
              have kXW : Bx (World.setCell (World.setCell wr ⟨V.heap.size, 2, none⟩ (.int .i64 0)) ⟨V.heap.size, 3, none⟩ (.int .i64 1)) x1.heap.size 23 #[.int .i64 N1, .int .i64 N2] := (kX.far (by simp; omega) _).far (by simp; omega) _
              have hBW : Below V.heap.size V (World.setCell (World.setCell wr ⟨V.heap.size, 2, none⟩ (.int .i64 0)) ⟨V.heap.size, 3, none⟩ (.int .i64 1)) := (hB.setCell (by simp) _).setCell (by simp) _
              obtain ⟨s0, s1, s2, s3, s4, s5, sf, sz⟩ := kS.six
              go_upto_region 27 with (first | (go_at_call 29; refine (NET.out 0 1 _ (by omega) (by omega) (by omega) (by omega) hBW).mono ?_; rintro e y1 ⟨rfl, hq⟩; rw [HLO.out.1, HLO.out.2]; have kS2 := kW.call hq; have kX2 := kXW.call hq; have hB2 := hBW.trans (hq.mono hBW.size); clear s0 s1 s2 s3 s4 s5 sf sz; obtain ⟨s0, s1, s2, s3, s4, s5, sf, sz⟩ := kS2.six) | fail)
              have k12 := Bx.new y1 23 #[.int .i64 (N1 + d0), .int .i64 (N2 + d1)]
              have kS3 := kS2.alloc (.cells #[.int .i64 (N1 + d0), .int .i64 (N2 + d1)] 23)
              have kX3 := kX2.alloc (.cells #[.int .i64 (N1 + d0), .int .i64 (N2 + d1)] 23)
              have hB3 := hB2.alloc hB2.size (.cells #[.int .i64 (N1 + d0), .int .i64 (N2 + d1)] 23)
              obtain ⟨Y, hY⟩ : ∃ Y, y1.alloc (.cells #[.int .i64 (N1 + d0), .int .i64 (N2 + d1)] 23) = Y := ⟨_, rfl⟩
              rw [hY] at k12 kS3 kX3 hB3 ⊢
              clear hY kS2 kX2 hB2 kW kXW hBW s0 s1 s2 s3 s4 s5 sf sz l0 l1 l2 l3 lf lz
              refine AnyG.start (fun w' : World => Below Y.heap.size Y w') (fun i => true) (by kernel_rfl) ?_
              have hS : (fun w' : World => Below Y.heap.size Y w') (World.drew _) := (Below.refl _ _).drew
              refine AnyG.take (i := 0) (v := ?_) rfl (by kernel_rfl) (fun _ _ _ h => h) rfl ?_ hS ?_
              rotate_left
              · (intro w' hSw; (try dsimp only at hSw); go_simp; try with_reducible rfl)
              try simp only [Act.put, List.getElem_toArray, List.getElem_cons_succ, List.getElem_cons_zero, List.setIfInBounds_toArray, List.set_cons_zero, List.set_cons_succ]
              refine AnyG.take (i := 1) (v := ?_) rfl (by kernel_rfl) (fun _ _ _ h => h) rfl ?_ hS ?_
              rotate_left
              · (intro w' hSw; (try dsimp only at hSw); go_simp; try with_reducible rfl)
              try simp only [Act.put, List.getElem_toArray, List.getElem_cons_succ, List.getElem_cons_zero, List.setIfInBounds_toArray, List.set_cons_zero, List.set_cons_succ]
              refine AnyG.take (i := 2) (v := ?_) rfl (by kernel_rfl) (fun _ _ _ h => h) rfl ?_ hS ?_
              rotate_left
              · (intro w' hSw; (try dsimp only at hSw); go_simp; try with_reducible rfl)
              try simp only [Act.put, List.getElem_toArray, List.getElem_cons_succ, List.getElem_cons_zero, List.setIfInBounds_toArray, List.set_cons_zero, List.set_cons_succ]
              refine AnyG.takeG (i := 3) (v := ?_) rfl (by kernel_rfl) (fun _ _ _ h => h) (by simp [Region.wanted, yielded]) ?_ hS ?_
              rotate_left
              · (intro w' hSw; (try dsimp only at hSw); obtain ⟨r0, r1, rf, rz⟩ := (k12.call hSw).two; go_simp; (try simp only [HW.out.1, HW.out.2, if_true]); try with_reducible rfl)
              try simp only [Act.put, List.getElem_toArray, List.getElem_cons_succ, List.getElem_cons_zero, List.setIfInBounds_toArray, List.set_cons_zero, List.set_cons_succ]
              refine AnyG.takeG (i := 4) (v := ?_) rfl (by kernel_rfl) (fun _ _ _ h => h) (by simp [Region.wanted, yielded]) ?_ hS ?_
              rotate_left
              · (intro w' hSw; (try dsimp only at hSw); go_simp; (try simp only [HW.out.1, HW.out.2, if_true]); try with_reducible rfl)
              try simp only [Act.put, List.getElem_toArray, List.getElem_cons_succ, List.getElem_cons_zero, List.setIfInBounds_toArray, List.set_cons_zero, List.set_cons_succ]
              refine AnyG.takeG (i := 5) (v := ?_) rfl (by kernel_rfl) (fun _ _ _ h => h) (by simp [Region.wanted, yielded]) ?_ hS ?_
              rotate_left
              · (intro w' hSw; (try dsimp only at hSw); obtain ⟨r0, r1, rf, rz⟩ := (kX3.call hSw).two; go_simp; (try simp only [HW.out.1, HW.out.2, if_true]); try with_reducible rfl)
              try simp only [Act.put, List.getElem_toArray, List.getElem_cons_succ, List.getElem_cons_zero, List.setIfInBounds_toArray, List.set_cons_zero, List.set_cons_succ]
              refine AnyG.takeG (i := 6) (v := ?_) rfl (by kernel_rfl) (fun _ _ _ h => h) (by simp [Region.wanted, yielded]) ?_ hS ?_
              rotate_left
              · (intro w' hSw; (try dsimp only at hSw); go_simp; (try simp only [HW.out.1, HW.out.2, if_true]); try with_reducible rfl)
              try simp only [Act.put, List.getElem_toArray, List.getElem_cons_succ, List.getElem_cons_zero, List.setIfInBounds_toArray, List.set_cons_zero, List.set_cons_succ]
              refine AnyG.takeG (i := 7) (v := ?_) rfl (by kernel_rfl) (fun _ _ _ h => h) (by simp [Region.wanted, yielded]) ?_ hS ?_
              rotate_left
              · (intro w' hSw; (try dsimp only at hSw); go_simp; (try simp only [HW.out.1, HW.out.2, if_true]); try with_reducible rfl)
              try simp only [Act.put, List.getElem_toArray, List.getElem_cons_succ, List.getElem_cons_zero, List.setIfInBounds_toArray, List.set_cons_zero, List.set_cons_succ]
              refine AnyG.takeG (i := 8) (v := ?_) rfl (by kernel_rfl) (fun _ _ _ h => h) (by simp [Region.wanted, yielded]) ?_ hS ?_
              rotate_left
              · (intro w' hSw; (try dsimp only at hSw); go_simp; (try simp only [HW.out.1, HW.out.2, if_true]); try with_reducible rfl)
              try simp only [Act.put, List.getElem_toArray, List.getElem_cons_succ, List.getElem_cons_zero, List.setIfInBounds_toArray, List.set_cons_zero, List.set_cons_succ]
              refine AnyG.takeG (i := 9) (v := ?_) rfl (by kernel_rfl) (fun _ _ _ h => h) (by simp [Region.wanted, yielded]) ?_ hS ?_
              rotate_left
              · (intro w' hSw; (try dsimp only at hSw); obtain ⟨r0, r1, rf, rz⟩ := (kX3.call hSw).two; go_simp; (try simp only [HW.out.1, HW.out.2, if_true]); try with_reducible rfl)
              try simp only [Act.put, List.getElem_toArray, List.getElem_cons_succ, List.getElem_cons_zero, List.setIfInBounds_toArray, List.set_cons_zero, List.set_cons_succ]
              refine AnyG.takeG (i := 10) (v := ?_) rfl (by kernel_rfl) (fun _ _ _ h => h) (by simp [Region.wanted, yielded]) ?_ hS ?_
              rotate_left
              · (intro w' hSw; (try dsimp only at hSw); go_simp; (try simp only [HW.out.1, HW.out.2, if_true]); try with_reducible rfl)
              try simp only [Act.put, List.getElem_toArray, List.getElem_cons_succ, List.getElem_cons_zero, List.setIfInBounds_toArray, List.set_cons_zero, List.set_cons_succ]
              refine AnyG.takeG (i := 11) (v := ?_) rfl (by kernel_rfl) (fun _ _ _ h => h) (by simp [Region.wanted, yielded]) ?_ hS ?_
              rotate_left
              · (intro w' hSw; (try dsimp only at hSw); go_simp; (try simp only [HW.out.1, HW.out.2, if_true]); try with_reducible rfl)
              try simp only [Act.put, List.getElem_toArray, List.getElem_cons_succ, List.getElem_cons_zero, List.setIfInBounds_toArray, List.set_cons_zero, List.set_cons_succ]
              refine AnyG.oneG (i := 12) (by kernel_rfl) rfl (by simp [Region.wanted, yielded]) ?_
              go_simp
              refine (rng_any _ _ _).mono ?_
              rintro e y2 ⟨rfl, hr⟩
              have hS2 : Below Y.heap.size Y y2 := Below.trans hS (hr.mono hS.size)
              clear hS hr
              refine Onward.on hS2 (fun hS => ?_)
              clear hS2
              try simp only [Act.put, List.getElem_toArray, List.getElem_cons_succ, List.getElem_cons_zero, List.setIfInBounds_toArray, List.set_cons_zero, List.set_cons_succ]
              refine AnyG.takeG (i := 13) (v := ?_) rfl (by kernel_rfl) (fun _ _ _ h => h) (by simp [Region.wanted, yielded]) ?_ hS ?_
              rotate_left
              · (intro w' hSw; (try dsimp only at hSw); go_simp; (try simp only [HW.out.1, HW.out.2, if_true]); try with_reducible rfl)
              try simp only [Act.put, List.getElem_toArray, List.getElem_cons_succ, List.getElem_cons_zero, List.setIfInBounds_toArray, List.set_cons_zero, List.set_cons_succ]
              refine AnyG.take (i := 14) (v := ?_) rfl (by kernel_rfl) (fun _ _ _ h => h) rfl ?_ hS ?_
              rotate_left
              · (intro w' hSw; (try dsimp only at hSw); go_simp; try with_reducible rfl)
              try simp only [Act.put, List.getElem_toArray, List.getElem_cons_succ, List.getElem_cons_zero, List.setIfInBounds_toArray, List.set_cons_zero, List.set_cons_succ]
              refine AnyG.done (by kernel_rfl) ?_ _
              go_simp
              go_wp2_with fail
              go_roundw
              case rel =>
                repeat (refine Exists.intro ?_ ?_; rotate_left)
                refine And.intro ?_ ?_
                rotate_left
                · rfl
                exact ⟨2, 0, 1, by go_num, by omega, kS3.call hS, kX3.call hS, hB3.trans (hS.mono hB3.size)⟩
              case measure => simp [intOf]
            · have hlo : dsLo 0 2 d0 d1 = 0 := by unfold dsLo drLo drHi; simp <;> omega
              have hhi : dsHi 0 2 d0 d1 = d1 := by unfold dsHi drLo drHi; simp <;> omega
              have HW := Lib.hid (And.intro (IntWalk.i64_in N1 (by omega)) (IntWalk.i64_in (N2 + d1) (by omega)))
              have HLO := Lib.hid (And.intro hlo hhi)
              clear hlo hhi
              have kW : Bx (World.setCell (World.setCell wr ⟨V.heap.size, 2, none⟩ (.int .i64 0)) ⟨V.heap.size, 3, none⟩ (.int .i64 2)) V.heap.size 50 #[.slice FA fn fc, .slice BA bn bc, .int .i64 0, .int .i64 2, .int .i64 d0, .int .i64 d1] := by simpa using (kS.set_ 2 (.int .i64 0)).set_ 3 (.int .i64 2)
              have kXW : Bx (World.setCell (World.setCell wr ⟨V.heap.size, 2, none⟩ (.int .i64 0)) ⟨V.heap.size, 3, none⟩ (.int .i64 2)) x1.heap.size 23 #[.int .i64 N1, .int .i64 N2] := (kX.far (by simp; omega) _).far (by simp; omega) _
              have hBW : Below V.heap.size V (World.setCell (World.setCell wr ⟨V.heap.size, 2, none⟩ (.int .i64 0)) ⟨V.heap.size, 3, none⟩ (.int .i64 2)) := (hB.setCell (by simp) _).setCell (by simp) _
              obtain ⟨s0, s1, s2, s3, s4, s5, sf, sz⟩ := kS.six
              go_upto_region 27 with (first | (go_at_call 29; refine (NET.out 0 2 _ (by omega) (by omega) (by omega) (by omega) hBW).mono ?_; rintro e y1 ⟨rfl, hq⟩; rw [HLO.out.1, HLO.out.2]; have kS2 := kW.call hq; have kX2 := kXW.call hq; have hB2 := hBW.trans (hq.mono hBW.size); clear s0 s1 s2 s3 s4 s5 sf sz; obtain ⟨s0, s1, s2, s3, s4, s5, sf, sz⟩ := kS2.six) | fail)
              have k12 := Bx.new y1 23 #[.int .i64 N1, .int .i64 (N2 + d1)]
              have kS3 := kS2.alloc (.cells #[.int .i64 N1, .int .i64 (N2 + d1)] 23)
              have kX3 := kX2.alloc (.cells #[.int .i64 N1, .int .i64 (N2 + d1)] 23)
              have hB3 := hB2.alloc hB2.size (.cells #[.int .i64 N1, .int .i64 (N2 + d1)] 23)
              obtain ⟨Y, hY⟩ : ∃ Y, y1.alloc (.cells #[.int .i64 N1, .int .i64 (N2 + d1)] 23) = Y := ⟨_, rfl⟩
              rw [hY] at k12 kS3 kX3 hB3 ⊢
              clear hY kS2 kX2 hB2 kW kXW hBW s0 s1 s2 s3 s4 s5 sf sz l0 l1 l2 l3 lf lz
              refine AnyG.start (fun w' : World => Below Y.heap.size Y w') (fun i => true) (by kernel_rfl) ?_
              have hS : (fun w' : World => Below Y.heap.size Y w') (World.drew _) := (Below.refl _ _).drew
              refine AnyG.take (i := 0) (v := ?_) rfl (by kernel_rfl) (fun _ _ _ h => h) rfl ?_ hS ?_
              rotate_left
              · (intro w' hSw; (try dsimp only at hSw); go_simp; try with_reducible rfl)
              try simp only [Act.put, List.getElem_toArray, List.getElem_cons_succ, List.getElem_cons_zero, List.setIfInBounds_toArray, List.set_cons_zero, List.set_cons_succ]
              refine AnyG.take (i := 1) (v := ?_) rfl (by kernel_rfl) (fun _ _ _ h => h) rfl ?_ hS ?_
              rotate_left
              · (intro w' hSw; (try dsimp only at hSw); go_simp; try with_reducible rfl)
              try simp only [Act.put, List.getElem_toArray, List.getElem_cons_succ, List.getElem_cons_zero, List.setIfInBounds_toArray, List.set_cons_zero, List.set_cons_succ]
              refine AnyG.take (i := 2) (v := ?_) rfl (by kernel_rfl) (fun _ _ _ h => h) rfl ?_ hS ?_
              rotate_left
              · (intro w' hSw; (try dsimp only at hSw); go_simp; try with_reducible rfl)
              try simp only [Act.put, List.getElem_toArray, List.getElem_cons_succ, List.getElem_cons_zero, List.setIfInBounds_toArray, List.set_cons_zero, List.set_cons_succ]
              refine AnyG.takeG (i := 3) (v := ?_) rfl (by kernel_rfl) (fun _ _ _ h => h) (by simp [Region.wanted, yielded]) ?_ hS ?_
              rotate_left
              · (intro w' hSw; (try dsimp only at hSw); obtain ⟨r0, r1, rf, rz⟩ := (k12.call hSw).two; go_simp; (try simp only [HW.out.1, HW.out.2, if_true]); try with_reducible rfl)
              try simp only [Act.put, List.getElem_toArray, List.getElem_cons_succ, List.getElem_cons_zero, List.setIfInBounds_toArray, List.set_cons_zero, List.set_cons_succ]
              refine AnyG.takeG (i := 4) (v := ?_) rfl (by kernel_rfl) (fun _ _ _ h => h) (by simp [Region.wanted, yielded]) ?_ hS ?_
              rotate_left
              · (intro w' hSw; (try dsimp only at hSw); go_simp; (try simp only [HW.out.1, HW.out.2, if_true]); try with_reducible rfl)
              try simp only [Act.put, List.getElem_toArray, List.getElem_cons_succ, List.getElem_cons_zero, List.setIfInBounds_toArray, List.set_cons_zero, List.set_cons_succ]
              refine AnyG.takeG (i := 5) (v := ?_) rfl (by kernel_rfl) (fun _ _ _ h => h) (by simp [Region.wanted, yielded]) ?_ hS ?_
              rotate_left
              · (intro w' hSw; (try dsimp only at hSw); obtain ⟨r0, r1, rf, rz⟩ := (kX3.call hSw).two; go_simp; (try simp only [HW.out.1, HW.out.2, if_true]); try with_reducible rfl)
              try simp only [Act.put, List.getElem_toArray, List.getElem_cons_succ, List.getElem_cons_zero, List.setIfInBounds_toArray, List.set_cons_zero, List.set_cons_succ]
              refine AnyG.takeG (i := 6) (v := ?_) rfl (by kernel_rfl) (fun _ _ _ h => h) (by simp [Region.wanted, yielded]) ?_ hS ?_
              rotate_left
              · (intro w' hSw; (try dsimp only at hSw); go_simp; (try simp only [HW.out.1, HW.out.2, if_true]); try with_reducible rfl)
              try simp only [Act.put, List.getElem_toArray, List.getElem_cons_succ, List.getElem_cons_zero, List.setIfInBounds_toArray, List.set_cons_zero, List.set_cons_succ]
              refine AnyG.takeG (i := 7) (v := ?_) rfl (by kernel_rfl) (fun _ _ _ h => h) (by simp [Region.wanted, yielded]) ?_ hS ?_
              rotate_left
              · (intro w' hSw; (try dsimp only at hSw); go_simp; (try simp only [HW.out.1, HW.out.2, if_true]); try with_reducible rfl)
              try simp only [Act.put, List.getElem_toArray, List.getElem_cons_succ, List.getElem_cons_zero, List.setIfInBounds_toArray, List.set_cons_zero, List.set_cons_succ]
              refine AnyG.takeG (i := 8) (v := ?_) rfl (by kernel_rfl) (fun _ _ _ h => h) (by simp [Region.wanted, yielded]) ?_ hS ?_
              rotate_left
              · (intro w' hSw; (try dsimp only at hSw); go_simp; (try simp only [HW.out.1, HW.out.2, if_true]); try with_reducible rfl)
              try simp only [Act.put, List.getElem_toArray, List.getElem_cons_succ, List.getElem_cons_zero, List.setIfInBounds_toArray, List.set_cons_zero, List.set_cons_succ]
              refine AnyG.takeG (i := 9) (v := ?_) rfl (by kernel_rfl) (fun _ _ _ h => h) (by simp [Region.wanted, yielded]) ?_ hS ?_
              rotate_left
              · (intro w' hSw; (try dsimp only at hSw); obtain ⟨r0, r1, rf, rz⟩ := (kX3.call hSw).two; go_simp; (try simp only [HW.out.1, HW.out.2, if_true]); try with_reducible rfl)
              try simp only [Act.put, List.getElem_toArray, List.getElem_cons_succ, List.getElem_cons_zero, List.setIfInBounds_toArray, List.set_cons_zero, List.set_cons_succ]
              refine AnyG.takeG (i := 10) (v := ?_) rfl (by kernel_rfl) (fun _ _ _ h => h) (by simp [Region.wanted, yielded]) ?_ hS ?_
              rotate_left
              · (intro w' hSw; (try dsimp only at hSw); go_simp; (try simp only [HW.out.1, HW.out.2, if_true]); try with_reducible rfl)
              try simp only [Act.put, List.getElem_toArray, List.getElem_cons_succ, List.getElem_cons_zero, List.setIfInBounds_toArray, List.set_cons_zero, List.set_cons_succ]
              refine AnyG.takeG (i := 11) (v := ?_) rfl (by kernel_rfl) (fun _ _ _ h => h) (by simp [Region.wanted, yielded]) ?_ hS ?_
              rotate_left
              · (intro w' hSw; (try dsimp only at hSw); go_simp; (try simp only [HW.out.1, HW.out.2, if_true]); try with_reducible rfl)
              try simp only [Act.put, List.getElem_toArray, List.getElem_cons_succ, List.getElem_cons_zero, List.setIfInBounds_toArray, List.set_cons_zero, List.set_cons_succ]
              refine AnyG.oneG (i := 12) (by kernel_rfl) rfl (by simp [Region.wanted, yielded]) ?_
              go_simp
              refine (rng_any _ _ _).mono ?_
              rintro e y2 ⟨rfl, hr⟩
              have hS2 : Below Y.heap.size Y y2 := Below.trans hS (hr.mono hS.size)
              clear hS hr
              refine Onward.on hS2 (fun hS => ?_)
              clear hS2
              try simp only [Act.put, List.getElem_toArray, List.getElem_cons_succ, List.getElem_cons_zero, List.setIfInBounds_toArray, List.set_cons_zero, List.set_cons_succ]
              refine AnyG.takeG (i := 13) (v := ?_) rfl (by kernel_rfl) (fun _ _ _ h => h) (by simp [Region.wanted, yielded]) ?_ hS ?_
              rotate_left
              · (intro w' hSw; (try dsimp only at hSw); go_simp; (try simp only [HW.out.1, HW.out.2, if_true]); try with_reducible rfl)
              try simp only [Act.put, List.getElem_toArray, List.getElem_cons_succ, List.getElem_cons_zero, List.setIfInBounds_toArray, List.set_cons_zero, List.set_cons_succ]
              refine AnyG.take (i := 14) (v := ?_) rfl (by kernel_rfl) (fun _ _ _ h => h) rfl ?_ hS ?_
              rotate_left
              · (intro w' hSw; (try dsimp only at hSw); go_simp; try with_reducible rfl)
              try simp only [Act.put, List.getElem_toArray, List.getElem_cons_succ, List.getElem_cons_zero, List.setIfInBounds_toArray, List.set_cons_zero, List.set_cons_succ]
              refine AnyG.done (by kernel_rfl) ?_ _
              go_simp
              go_wp2_with fail
              go_roundw
              case rel =>
                repeat (refine Exists.intro ?_ ?_; rotate_left)
                refine And.intro ?_ ?_
                rotate_left
                · rfl
                exact ⟨3, 0, 2, by go_num, by omega, kS3.call hS, kX3.call hS, hB3.trans (hS.mono hB3.size)⟩
              case measure => simp [intOf]
            · have hlo : dsLo 1 0 d0 d1 = (-d1) := by unfold dsLo drLo drHi; simp <;> omega
              have hhi : dsHi 1 0 d0 d1 = (-d0) := by unfold dsHi drLo drHi; simp <;> omega
              have HW := Lib.hid (And.intro (IntWalk.i64_in (N1 + (-d1)) (by omega)) (IntWalk.i64_in (N2 + (-d0)) (by omega)))
              have HLO := Lib.hid (And.intro hlo hhi)
              clear hlo hhi
              have kW : Bx (World.setCell (World.setCell wr ⟨V.heap.size, 2, none⟩ (.int .i64 1)) ⟨V.heap.size, 3, none⟩ (.int .i64 0)) V.heap.size 50 #[.slice FA fn fc, .slice BA bn bc, .int .i64 1, .int .i64 0, .int .i64 d0, .int .i64 d1] := by simpa using (kS.set_ 2 (.int .i64 1)).set_ 3 (.int .i64 0)
              have kXW : Bx (World.setCell (World.setCell wr ⟨V.heap.size, 2, none⟩ (.int .i64 1)) ⟨V.heap.size, 3, none⟩ (.int .i64 0)) x1.heap.size 23 #[.int .i64 N1, .int .i64 N2] := (kX.far (by simp; omega) _).far (by simp; omega) _
              have hBW : Below V.heap.size V (World.setCell (World.setCell wr ⟨V.heap.size, 2, none⟩ (.int .i64 1)) ⟨V.heap.size, 3, none⟩ (.int .i64 0)) := (hB.setCell (by simp) _).setCell (by simp) _
              obtain ⟨s0, s1, s2, s3, s4, s5, sf, sz⟩ := kS.six
              go_upto_region 27 with (first | (go_at_call 29; refine (NET.out 1 0 _ (by omega) (by omega) (by omega) (by omega) hBW).mono ?_; rintro e y1 ⟨rfl, hq⟩; rw [HLO.out.1, HLO.out.2]; have kS2 := kW.call hq; have kX2 := kXW.call hq; have hB2 := hBW.trans (hq.mono hBW.size); clear s0 s1 s2 s3 s4 s5 sf sz; obtain ⟨s0, s1, s2, s3, s4, s5, sf, sz⟩ := kS2.six) | fail)
              have k12 := Bx.new y1 23 #[.int .i64 (N1 + (-d1)), .int .i64 (N2 + (-d0))]
              have kS3 := kS2.alloc (.cells #[.int .i64 (N1 + (-d1)), .int .i64 (N2 + (-d0))] 23)
              have kX3 := kX2.alloc (.cells #[.int .i64 (N1 + (-d1)), .int .i64 (N2 + (-d0))] 23)
              have hB3 := hB2.alloc hB2.size (.cells #[.int .i64 (N1 + (-d1)), .int .i64 (N2 + (-d0))] 23)
              obtain ⟨Y, hY⟩ : ∃ Y, y1.alloc (.cells #[.int .i64 (N1 + (-d1)), .int .i64 (N2 + (-d0))] 23) = Y := ⟨_, rfl⟩
              rw [hY] at k12 kS3 kX3 hB3 ⊢
              clear hY kS2 kX2 hB2 kW kXW hBW s0 s1 s2 s3 s4 s5 sf sz l0 l1 l2 l3 lf lz
              refine AnyG.start (fun w' : World => Below Y.heap.size Y w') (fun i => true) (by kernel_rfl) ?_
              have hS : (fun w' : World => Below Y.heap.size Y w') (World.drew _) := (Below.refl _ _).drew
              refine AnyG.take (i := 0) (v := ?_) rfl (by kernel_rfl) (fun _ _ _ h => h) rfl ?_ hS ?_
              rotate_left
              · (intro w' hSw; (try dsimp only at hSw); go_simp; try with_reducible rfl)
              try simp only [Act.put, List.getElem_toArray, List.getElem_cons_succ, List.getElem_cons_zero, List.setIfInBounds_toArray, List.set_cons_zero, List.set_cons_succ]
              refine AnyG.take (i := 1) (v := ?_) rfl (by kernel_rfl) (fun _ _ _ h => h) rfl ?_ hS ?_
              rotate_left
              · (intro w' hSw; (try dsimp only at hSw); go_simp; try with_reducible rfl)
              try simp only [Act.put, List.getElem_toArray, List.getElem_cons_succ, List.getElem_cons_zero, List.setIfInBounds_toArray, List.set_cons_zero, List.set_cons_succ]
              refine AnyG.take (i := 2) (v := ?_) rfl (by kernel_rfl) (fun _ _ _ h => h) rfl ?_ hS ?_
              rotate_left
              · (intro w' hSw; (try dsimp only at hSw); go_simp; try with_reducible rfl)
              try simp only [Act.put, List.getElem_toArray, List.getElem_cons_succ, List.getElem_cons_zero, List.setIfInBounds_toArray, List.set_cons_zero, List.set_cons_succ]
              refine AnyG.takeG (i := 3) (v := ?_) rfl (by kernel_rfl) (fun _ _ _ h => h) (by simp [Region.wanted, yielded]) ?_ hS ?_
              rotate_left
              · (intro w' hSw; (try dsimp only at hSw); obtain ⟨r0, r1, rf, rz⟩ := (k12.call hSw).two; go_simp; (try simp only [HW.out.1, HW.out.2, if_true]); try with_reducible rfl)
              try simp only [Act.put, List.getElem_toArray, List.getElem_cons_succ, List.getElem_cons_zero, List.setIfInBounds_toArray, List.set_cons_zero, List.set_cons_succ]
              refine AnyG.takeG (i := 4) (v := ?_) rfl (by kernel_rfl) (fun _ _ _ h => h) (by simp [Region.wanted, yielded]) ?_ hS ?_
              rotate_left
              · (intro w' hSw; (try dsimp only at hSw); go_simp; (try simp only [HW.out.1, HW.out.2, if_true]); try with_reducible rfl)
              try simp only [Act.put, List.getElem_toArray, List.getElem_cons_succ, List.getElem_cons_zero, List.setIfInBounds_toArray, List.set_cons_zero, List.set_cons_succ]
              refine AnyG.takeG (i := 5) (v := ?_) rfl (by kernel_rfl) (fun _ _ _ h => h) (by simp [Region.wanted, yielded]) ?_ hS ?_
              rotate_left
              · (intro w' hSw; (try dsimp only at hSw); obtain ⟨r0, r1, rf, rz⟩ := (kX3.call hSw).two; go_simp; (try simp only [HW.out.1, HW.out.2, if_true]); try with_reducible rfl)
              try simp only [Act.put, List.getElem_toArray, List.getElem_cons_succ, List.getElem_cons_zero, List.setIfInBounds_toArray, List.set_cons_zero, List.set_cons_succ]
              refine AnyG.takeG (i := 6) (v := ?_) rfl (by kernel_rfl) (fun _ _ _ h => h) (by simp [Region.wanted, yielded]) ?_ hS ?_
              rotate_left
              · (intro w' hSw; (try dsimp only at hSw); go_simp; (try simp only [HW.out.1, HW.out.2, if_true]); try with_reducible rfl)
              try simp only [Act.put, List.getElem_toArray, List.getElem_cons_succ, List.getElem_cons_zero, List.setIfInBounds_toArray, List.set_cons_zero, List.set_cons_succ]
              refine AnyG.takeG (i := 7) (v := ?_) rfl (by kernel_rfl) (fun _ _ _ h => h) (by simp [Region.wanted, yielded]) ?_ hS ?_
              rotate_left
              · (intro w' hSw; (try dsimp only at hSw); go_simp; (try simp only [HW.out.1, HW.out.2, if_true]); try with_reducible rfl)
              try simp only [Act.put, List.getElem_toArray, List.getElem_cons_succ, List.getElem_cons_zero, List.setIfInBounds_toArray, List.set_cons_zero, List.set_cons_succ]
              refine AnyG.takeG (i := 8) (v := ?_) rfl (by kernel_rfl) (fun _ _ _ h => h) (by simp [Region.wanted, yielded]) ?_ hS ?_
              rotate_left
              · (intro w' hSw; (try dsimp only at hSw); go_simp; (try simp only [HW.out.1, HW.out.2, if_true]); try with_reducible rfl)
              try simp only [Act.put, List.getElem_toArray, List.getElem_cons_succ, List.getElem_cons_zero, List.setIfInBounds_toArray, List.set_cons_zero, List.set_cons_succ]
              refine AnyG.takeG (i := 9) (v := ?_) rfl (by kernel_rfl) (fun _ _ _ h => h) (by simp [Region.wanted, yielded]) ?_ hS ?_
              rotate_left
              · (intro w' hSw; (try dsimp only at hSw); obtain ⟨r0, r1, rf, rz⟩ := (kX3.call hSw).two; go_simp; (try simp only [HW.out.1, HW.out.2, if_true]); try with_reducible rfl)
              try simp only [Act.put, List.getElem_toArray, List.getElem_cons_succ, List.getElem_cons_zero, List.setIfInBounds_toArray, List.set_cons_zero, List.set_cons_succ]
              refine AnyG.takeG (i := 10) (v := ?_) rfl (by kernel_rfl) (fun _ _ _ h => h) (by simp [Region.wanted, yielded]) ?_ hS ?_
              rotate_left
              · (intro w' hSw; (try dsimp only at hSw); go_simp; (try simp only [HW.out.1, HW.out.2, if_true]); try with_reducible rfl)
              try simp only [Act.put, List.getElem_toArray, List.getElem_cons_succ, List.getElem_cons_zero, List.setIfInBounds_toArray, List.set_cons_zero, List.set_cons_succ]
              refine AnyG.takeG (i := 11) (v := ?_) rfl (by kernel_rfl) (fun _ _ _ h => h) (by simp [Region.wanted, yielded]) ?_ hS ?_
              rotate_left
              · (intro w' hSw; (try dsimp only at hSw); go_simp; (try simp only [HW.out.1, HW.out.2, if_true]); try with_reducible rfl)
              try simp only [Act.put, List.getElem_toArray, List.getElem_cons_succ, List.getElem_cons_zero, List.setIfInBounds_toArray, List.set_cons_zero, List.set_cons_succ]
              refine AnyG.oneG (i := 12) (by kernel_rfl) rfl (by simp [Region.wanted, yielded]) ?_
              go_simp
              refine (rng_any _ _ _).mono ?_
              rintro e y2 ⟨rfl, hr⟩
              have hS2 : Below Y.heap.size Y y2 := Below.trans hS (hr.mono hS.size)
              clear hS hr
              refine Onward.on hS2 (fun hS => ?_)
              clear hS2
              try simp only [Act.put, List.getElem_toArray, List.getElem_cons_succ, List.getElem_cons_zero, List.setIfInBounds_toArray, List.set_cons_zero, List.set_cons_succ]
              refine AnyG.takeG (i := 13) (v := ?_) rfl (by kernel_rfl) (fun _ _ _ h => h) (by simp [Region.wanted, yielded]) ?_ hS ?_
              rotate_left
              · (intro w' hSw; (try dsimp only at hSw); go_simp; (try simp only [HW.out.1, HW.out.2, if_true]); try with_reducible rfl)
              try simp only [Act.put, List.getElem_toArray, List.getElem_cons_succ, List.getElem_cons_zero, List.setIfInBounds_toArray, List.set_cons_zero, List.set_cons_succ]
              refine AnyG.take (i := 14) (v := ?_) rfl (by kernel_rfl) (fun _ _ _ h => h) rfl ?_ hS ?_
              rotate_left
              · (intro w' hSw; (try dsimp only at hSw); go_simp; try with_reducible rfl)
              try simp only [Act.put, List.getElem_toArray, List.getElem_cons_succ, List.getElem_cons_zero, List.setIfInBounds_toArray, List.set_cons_zero, List.set_cons_succ]
              refine AnyG.done (by kernel_rfl) ?_ _
              go_simp
              go_wp2_with fail
              go_roundw
              case rel =>
                repeat (refine Exists.intro ?_ ?_; rotate_left)
                refine And.intro ?_ ?_
                rotate_left
                · rfl
                exact ⟨1, 1, 0, by go_num, by omega, kS3.call hS, kX3.call hS, hB3.trans (hS.mono hB3.size)⟩
              case measure => simp [intOf]
            · have hlo : dsLo 1 1 d0 d1 = 0 := by unfold dsLo drLo drHi; simp
              have hhi : dsHi 1 1 d0 d1 = 0 := by unfold dsHi drLo drHi; simp
              have HW := Lib.hid (And.intro (IntWalk.i64_in N1 (by omega)) (IntWalk.i64_in N2 (by omega)))
              have HLO := Lib.hid (And.intro hlo hhi)
              clear hlo hhi
              have kW : Bx (World.setCell (World.setCell wr ⟨V.heap.size, 2, none⟩ (.int .i64 1)) ⟨V.heap.size, 3, none⟩ (.int .i64 1)) V.heap.size 50 #[.slice FA fn fc, .slice BA bn bc, .int .i64 1, .int .i64 1, .int .i64 d0, .int .i64 d1] := by simpa using (kS.set_ 2 (.int .i64 1)).set_ 3 (.int .i64 1)
              have kXW : Bx (World.setCell (World.setCell wr ⟨V.heap.size, 2, none⟩ (.int .i64 1)) ⟨V.heap.size, 3, none⟩ (.int .i64 1)) x1.heap.size 23 #[.int .i64 N1, .int .i64 N2] := (kX.far (by simp; omega) _).far (by simp; omega) _
              have hBW : Below V.heap.size V (World.setCell (World.setCell wr ⟨V.heap.size, 2, none⟩ (.int .i64 1)) ⟨V.heap.size, 3, none⟩ (.int .i64 1)) := (hB.setCell (by simp) _).setCell (by simp) _
              obtain ⟨s0, s1, s2, s3, s4, s5, sf, sz⟩ := kS.six
              go_upto_region 27 with (first | (go_at_call 29; refine (NET.out 1 1 _ (by omega) (by omega) (by omega) (by omega) hBW).mono ?_; rintro e y1 ⟨rfl, hq⟩; rw [HLO.out.1, HLO.out.2]; have kS2 := kW.call hq; have kX2 := kXW.call hq; have hB2 := hBW.trans (hq.mono hBW.size); clear s0 s1 s2 s3 s4 s5 sf sz; obtain ⟨s0, s1, s2, s3, s4, s5, sf, sz⟩ := kS2.six) | fail)
              have k12 := Bx.new y1 23 #[.int .i64 N1, .int .i64 N2]
              have kS3 := kS2.alloc (.cells #[.int .i64 N1, .int .i64 N2] 23)
              have kX3 := kX2.alloc (.cells #[.int .i64 N1, .int .i64 N2] 23)
              have hB3 := hB2.alloc hB2.size (.cells #[.int .i64 N1, .int .i64 N2] 23)
              obtain ⟨Y, hY⟩ : ∃ Y, y1.alloc (.cells #[.int .i64 N1, .int .i64 N2] 23) = Y := ⟨_, rfl⟩
              rw [hY] at k12 kS3 kX3 hB3 ⊢
              clear hY kS2 kX2 hB2 kW kXW hBW s0 s1 s2 s3 s4 s5 sf sz l0 l1 l2 l3 lf lz
              refine AnyG.start (fun w' : World => Below Y.heap.size Y w') (fun i => true) (by kernel_rfl) ?_
              have hS : (fun w' : World => Below Y.heap.size Y w') (World.drew _) := (Below.refl _ _).drew
              refine AnyG.take (i := 0) (v := ?_) rfl (by kernel_rfl) (fun _ _ _ h => h) rfl ?_ hS ?_
              rotate_left
              · (intro w' hSw; (try dsimp only at hSw); go_simp; try with_reducible rfl)
              try simp only [Act.put, List.getElem_toArray, List.getElem_cons_succ, List.getElem_cons_zero, List.setIfInBounds_toArray, List.set_cons_zero, List.set_cons_succ]
              refine AnyG.take (i := 1) (v := ?_) rfl (by kernel_rfl) (fun _ _ _ h => h) rfl ?_ hS ?_
              rotate_left
              · (intro w' hSw; (try dsimp only at hSw); go_simp; try with_reducible rfl)
              try simp only [Act.put, List.getElem_toArray, List.getElem_cons_succ, List.getElem_cons_zero, List.setIfInBounds_toArray, List.set_cons_zero, List.set_cons_succ]
              refine AnyG.take (i := 2) (v := ?_) rfl (by kernel_rfl) (fun _ _ _ h => h) rfl ?_ hS ?_
              rotate_left
              · (intro w' hSw; (try dsimp only at hSw); go_simp; try with_reducible rfl)
              try simp only [Act.put, List.getElem_toArray, List.getElem_cons_succ, List.getElem_cons_zero, List.setIfInBounds_toArray, List.set_cons_zero, List.set_cons_succ]
              refine AnyG.takeG (i := 3) (v := ?_) rfl (by kernel_rfl) (fun _ _ _ h => h) (by simp [Region.wanted, yielded]) ?_ hS ?_
              rotate_left
              · (intro w' hSw; (try dsimp only at hSw); obtain ⟨r0, r1, rf, rz⟩ := (k12.call hSw).two; go_simp; (try simp only [HW.out.1, HW.out.2, if_true]); try with_reducible rfl)
              try simp only [Act.put, List.getElem_toArray, List.getElem_cons_succ, List.getElem_cons_zero, List.setIfInBounds_toArray, List.set_cons_zero, List.set_cons_succ]
              refine AnyG.takeG (i := 4) (v := ?_) rfl (by kernel_rfl) (fun _ _ _ h => h) (by simp [Region.wanted, yielded]) ?_ hS ?_
              rotate_left
              · (intro w' hSw; (try dsimp only at hSw); go_simp; (try simp only [HW.out.1, HW.out.2, if_true]); try with_reducible rfl)
              try simp only [Act.put, List.getElem_toArray, List.getElem_cons_succ, List.getElem_cons_zero, List.setIfInBounds_toArray, List.set_cons_zero, List.set_cons_succ]
              refine AnyG.takeG (i := 5) (v := ?_) rfl (by kernel_rfl) (fun _ _ _ h => h) (by simp [Region.wanted, yielded]) ?_ hS ?_
              rotate_left
              · (intro w' hSw; (try dsimp only at hSw); obtain ⟨r0, r1, rf, rz⟩ := (kX3.call hSw).two; go_simp; (try simp only [HW.out.1, HW.out.2, if_true]); try with_reducible rfl)
              try simp only [Act.put, List.getElem_toArray, List.getElem_cons_succ, List.getElem_cons_zero, List.setIfInBounds_toArray, List.set_cons_zero, List.set_cons_succ]
              refine AnyG.takeG (i := 6) (v := ?_) rfl (by kernel_rfl) (fun _ _ _ h => h) (by simp [Region.wanted, yielded]) ?_ hS ?_
              rotate_left
              · (intro w' hSw; (try dsimp only at hSw); go_simp; (try simp only [HW.out.1, HW.out.2, if_true]); try with_reducible rfl)
              try simp only [Act.put, List.getElem_toArray, List.getElem_cons_succ, List.getElem_cons_zero, List.setIfInBounds_toArray, List.set_cons_zero, List.set_cons_succ]
              refine AnyG.takeG (i := 7) (v := ?_) rfl (by kernel_rfl) (fun _ _ _ h => h) (by simp [Region.wanted, yielded]) ?_ hS ?_
              rotate_left
              · (intro w' hSw; (try dsimp only at hSw); go_simp; (try simp only [HW.out.1, HW.out.2, if_true]); try with_reducible rfl)
              try simp only [Act.put, List.getElem_toArray, List.getElem_cons_succ, List.getElem_cons_zero, List.setIfInBounds_toArray, List.set_cons_zero, List.set_cons_succ]
              refine AnyG.takeG (i := 8) (v := ?_) rfl (by kernel_rfl) (fun _ _ _ h => h) (by simp [Region.wanted, yielded]) ?_ hS ?_
              rotate_left
              · (intro w' hSw; (try dsimp only at hSw); go_simp; (try simp only [HW.out.1, HW.out.2, if_true]); try with_reducible rfl)
              try simp only [Act.put, List.getElem_toArray, List.getElem_cons_succ, List.getElem_cons_zero, List.setIfInBounds_toArray, List.set_cons_zero, List.set_cons_succ]
              refine AnyG.takeG (i := 9) (v := ?_) rfl (by kernel_rfl) (fun _ _ _ h => h) (by simp [Region.wanted, yielded]) ?_ hS ?_
              rotate_left
              · (intro w' hSw; (try dsimp only at hSw); obtain ⟨r0, r1, rf, rz⟩ := (kX3.call hSw).two; go_simp; (try simp only [HW.out.1, HW.out.2, if_true]); try with_reducible rfl)
              try simp only [Act.put, List.getElem_toArray, List.getElem_cons_succ, List.getElem_cons_zero, List.setIfInBounds_toArray, List.set_cons_zero, List.set_cons_succ]
              refine AnyG.takeG (i := 10) (v := ?_) rfl (by kernel_rfl) (fun _ _ _ h => h) (by simp [Region.wanted, yielded]) ?_ hS ?_
              rotate_left
              · (intro w' hSw; (try dsimp only at hSw); go_simp; (try simp only [HW.out.1, HW.out.2, if_true]); try with_reducible rfl)
              try simp only [Act.put, List.getElem_toArray, List.getElem_cons_succ, List.getElem_cons_zero, List.setIfInBounds_toArray, List.set_cons_zero, List.set_cons_succ]
              refine AnyG.takeG (i := 11) (v := ?_) rfl (by kernel_rfl) (fun _ _ _ h => h) (by simp [Region.wanted, yielded]) ?_ hS ?_
              rotate_left
              · (intro w' hSw; (try dsimp only at hSw); go_simp; (try simp only [HW.out.1, HW.out.2, if_true]); try with_reducible rfl)
              try simp only [Act.put, List.getElem_toArray, List.getElem_cons_succ, List.getElem_cons_zero, List.setIfInBounds_toArray, List.set_cons_zero, List.set_cons_succ]
              refine AnyG.oneG (i := 12) (by kernel_rfl) rfl (by simp [Region.wanted, yielded]) ?_
              go_simp
              refine (rng_any _ _ _).mono ?_
              rintro e y2 ⟨rfl, hr⟩
              have hS2 : Below Y.heap.size Y y2 := Below.trans hS (hr.mono hS.size)
              clear hS hr
              refine Onward.on hS2 (fun hS => ?_)
              clear hS2
              try simp only [Act.put, List.getElem_toArray, List.getElem_cons_succ, List.getElem_cons_zero, List.setIfInBounds_toArray, List.set_cons_zero, List.set_cons_succ]
              refine AnyG.takeG (i := 13) (v := ?_) rfl (by kernel_rfl) (fun _ _ _ h => h) (by simp [Region.wanted, yielded]) ?_ hS ?_
              rotate_left
              · (intro w' hSw; (try dsimp only at hSw); go_simp; (try simp only [HW.out.1, HW.out.2, if_true]); try with_reducible rfl)
              try simp only [Act.put, List.getElem_toArray, List.getElem_cons_succ, List.getElem_cons_zero, List.setIfInBounds_toArray, List.set_cons_zero, List.set_cons_succ]
              refine AnyG.take (i := 14) (v := ?_) rfl (by kernel_rfl) (fun _ _ _ h => h) rfl ?_ hS ?_
              rotate_left
              · (intro w' hSw; (try dsimp only at hSw); go_simp; try with_reducible rfl)
              try simp only [Act.put, List.getElem_toArray, List.getElem_cons_succ, List.getElem_cons_zero, List.setIfInBounds_toArray, List.set_cons_zero, List.set_cons_succ]
              refine AnyG.done (by kernel_rfl) ?_ _
              go_simp
              go_wp2_with fail
              go_roundw
              case rel =>
                repeat (refine Exists.intro ?_ ?_; rotate_left)
                refine And.intro ?_ ?_
                rotate_left
                · rfl
                exact ⟨2, 1, 1, by go_num, by omega, kS3.call hS, kX3.call hS, hB3.trans (hS.mono hB3.size)⟩
              case measure => simp [intOf]
            · have hlo : dsLo 1 2 d0 d1 = (-d1) := by unfold dsLo drLo drHi; simp <;> omega
              have hhi : dsHi 1 2 d0 d1 = 0 := by unfold dsHi drLo drHi; simp <;> omega
              have HW := Lib.hid (And.intro (IntWalk.i64_in (N1 + (-d1)) (by omega)) (IntWalk.i64_in N2 (by omega)))
              have HLO := Lib.hid (And.intro hlo hhi)
              clear hlo hhi
              have kW : Bx (World.setCell (World.setCell wr ⟨V.heap.size, 2, none⟩ (.int .i64 1)) ⟨V.heap.size, 3, none⟩ (.int .i64 2)) V.heap.size 50 #[.slice FA fn fc, .slice BA bn bc, .int .i64 1, .int .i64 2, .int .i64 d0, .int .i64 d1] := by simpa using (kS.set_ 2 (.int .i64 1)).set_ 3 (.int .i64 2)
              have kXW : Bx (World.setCell (World.setCell wr ⟨V.heap.size, 2, none⟩ (.int .i64 1)) ⟨V.heap.size, 3, none⟩ (.int .i64 2)) x1.heap.size 23 #[.int .i64 N1, .int .i64 N2] := (kX.far (by simp; omega) _).far (by simp; omega) _
              have hBW : Below V.heap.size V (World.setCell (World.setCell wr ⟨V.heap.size, 2, none⟩ (.int .i64 1)) ⟨V.heap.size, 3, none⟩ (.int .i64 2)) := (hB.setCell (by simp) _).setCell (by simp) _
              obtain ⟨s0, s1, s2, s3, s4, s5, sf, sz⟩ := kS.six
              go_upto_region 27 with (first | (go_at_call 29; refine (NET.out 1 2 _ (by omega) (by omega) (by omega) (by omega) hBW).mono ?_; rintro e y1 ⟨rfl, hq⟩; rw [HLO.out.1, HLO.out.2]; have kS2 := kW.call hq; have kX2 := kXW.call hq; have hB2 := hBW.trans (hq.mono hBW.size); clear s0 s1 s2 s3 s4 s5 sf sz; obtain ⟨s0, s1, s2, s3, s4, s5, sf, sz⟩ := kS2.six) | fail)
              have k12 := Bx.new y1 23 #[.int .i64 (N1 + (-d1)), .int .i64 N2]
              have kS3 := kS2.alloc (.cells #[.int .i64 (N1 + (-d1)), .int .i64 N2] 23)
              have kX3 := kX2.alloc (.cells #[.int .i64 (N1 + (-d1)), .int .i64 N2] 23)
              have hB3 := hB2.alloc hB2.size (.cells #[.int .i64 (N1 + (-d1)), .int .i64 N2] 23)
              obtain ⟨Y, hY⟩ : ∃ Y, y1.alloc (.cells #[.int .i64 (N1 + (-d1)), .int .i64 N2] 23) = Y := ⟨_, rfl⟩
              rw [hY] at k12 kS3 kX3 hB3 ⊢
              clear hY kS2 kX2 hB2 kW kXW hBW s0 s1 s2 s3 s4 s5 sf sz l0 l1 l2 l3 lf lz
              refine AnyG.start (fun w' : World => Below Y.heap.size Y w') (fun i => true) (by kernel_rfl) ?_
              have hS : (fun w' : World => Below Y.heap.size Y w') (World.drew _) := (Below.refl _ _).drew
              refine AnyG.take (i := 0) (v := ?_) rfl (by kernel_rfl) (fun _ _ _ h => h) rfl ?_ hS ?_
              rotate_left
              · (intro w' hSw; (try dsimp only at hSw); go_simp; try with_reducible rfl)
              try simp only [Act.put, List.getElem_toArray, List.getElem_cons_succ, List.getElem_cons_zero, List.setIfInBounds_toArray, List.set_cons_zero, List.set_cons_succ]
              refine AnyG.take (i := 1) (v := ?_) rfl (by kernel_rfl) (fun _ _ _ h => h) rfl ?_ hS ?_
              rotate_left
              · (intro w' hSw; (try dsimp only at hSw); go_simp; try with_reducible rfl)
              try simp only [Act.put, List.getElem_toArray, List.getElem_cons_succ, List.getElem_cons_zero, List.setIfInBounds_toArray, List.set_cons_zero, List.set_cons_succ]
              refine AnyG.take (i := 2) (v := ?_) rfl (by kernel_rfl) (fun _ _ _ h => h) rfl ?_ hS ?_
              rotate_left
              · (intro w' hSw; (try dsimp only at hSw); go_simp; try with_reducible rfl)
              try simp only [Act.put, List.getElem_toArray, List.getElem_cons_succ, List.getElem_cons_zero, List.setIfInBounds_toArray, List.set_cons_zero, List.set_cons_succ]
              refine AnyG.takeG (i := 3) (v := ?_) rfl (by kernel_rfl) (fun _ _ _ h => h) (by simp [Region.wanted, yielded]) ?_ hS ?_
              rotate_left
              · (intro w' hSw; (try dsimp only at hSw); obtain ⟨r0, r1, rf, rz⟩ := (k12.call hSw).two; go_simp; (try simp only [HW.out.1, HW.out.2, if_true]); try with_reducible rfl)
              try simp only [Act.put, List.getElem_toArray, List.getElem_cons_succ, List.getElem_cons_zero, List.setIfInBounds_toArray, List.set_cons_zero, List.set_cons_succ]
              refine AnyG.takeG (i := 4) (v := ?_) rfl (by kernel_rfl) (fun _ _ _ h => h) (by simp [Region.wanted, yielded]) ?_ hS ?_
              rotate_left
              · (intro w' hSw; (try dsimp only at hSw); go_simp; (try simp only [HW.out.1, HW.out.2, if_true]); try with_reducible rfl)
              try simp only [Act.put, List.getElem_toArray, List.getElem_cons_succ, List.getElem_cons_zero, List.setIfInBounds_toArray, List.set_cons_zero, List.set_cons_succ]
              refine AnyG.takeG (i := 5) (v := ?_) rfl (by kernel_rfl) (fun _ _ _ h => h) (by simp [Region.wanted, yielded]) ?_ hS ?_
              rotate_left
              · (intro w' hSw; (try dsimp only at hSw); obtain ⟨r0, r1, rf, rz⟩ := (kX3.call hSw).two; go_simp; (try simp only [HW.out.1, HW.out.2, if_true]); try with_reducible rfl)
              try simp only [Act.put, List.getElem_toArray, List.getElem_cons_succ, List.getElem_cons_zero, List.setIfInBounds_toArray, List.set_cons_zero, List.set_cons_succ]
              refine AnyG.takeG (i := 6) (v := ?_) rfl (by kernel_rfl) (fun _ _ _ h => h) (by simp [Region.wanted, yielded]) ?_ hS ?_
              rotate_left
              · (intro w' hSw; (try dsimp only at hSw); go_simp; (try simp only [HW.out.1, HW.out.2, if_true]); try with_reducible rfl)
              try simp only [Act.put, List.getElem_toArray, List.getElem_cons_succ, List.getElem_cons_zero, List.setIfInBounds_toArray, List.set_cons_zero, List.set_cons_succ]
              refine AnyG.takeG (i := 7) (v := ?_) rfl (by kernel_rfl) (fun _ _ _ h => h) (by simp [Region.wanted, yielded]) ?_ hS ?_
              rotate_left
              · (intro w' hSw; (try dsimp only at hSw); go_simp; (try simp only [HW.out.1, HW.out.2, if_true]); try with_reducible rfl)
              try simp only [Act.put, List.getElem_toArray, List.getElem_cons_succ, List.getElem_cons_zero, List.setIfInBounds_toArray, List.set_cons_zero, List.set_cons_succ]
              refine AnyG.takeG (i := 8) (v := ?_) rfl (by kernel_rfl) (fun _ _ _ h => h) (by simp [Region.wanted, yielded]) ?_ hS ?_
              rotate_left
              · (intro w' hSw; (try dsimp only at hSw); go_simp; (try simp only [HW.out.1, HW.out.2, if_true]); try with_reducible rfl)
              try simp only [Act.put, List.getElem_toArray, List.getElem_cons_succ, List.getElem_cons_zero, List.setIfInBounds_toArray, List.set_cons_zero, List.set_cons_succ]
              refine AnyG.takeG (i := 9) (v := ?_) rfl (by kernel_rfl) (fun _ _ _ h => h) (by simp [Region.wanted, yielded]) ?_ hS ?_
              rotate_left
              · (intro w' hSw; (try dsimp only at hSw); obtain ⟨r0, r1, rf, rz⟩ := (kX3.call hSw).two; go_simp; (try simp only [HW.out.1, HW.out.2, if_true]); try with_reducible rfl)
              try simp only [Act.put, List.getElem_toArray, List.getElem_cons_succ, List.getElem_cons_zero, List.setIfInBounds_toArray, List.set_cons_zero, List.set_cons_succ]
              refine AnyG.takeG (i := 10) (v := ?_) rfl (by kernel_rfl) (fun _ _ _ h => h) (by simp [Region.wanted, yielded]) ?_ hS ?_
              rotate_left
              · (intro w' hSw; (try dsimp only at hSw); go_simp; (try simp only [HW.out.1, HW.out.2, if_true]); try with_reducible rfl)
              try simp only [Act.put, List.getElem_toArray, List.getElem_cons_succ, List.getElem_cons_zero, List.setIfInBounds_toArray, List.set_cons_zero, List.set_cons_succ]
              refine AnyG.takeG (i := 11) (v := ?_) rfl (by kernel_rfl) (fun _ _ _ h => h) (by simp [Region.wanted, yielded]) ?_ hS ?_
              rotate_left
              · (intro w' hSw; (try dsimp only at hSw); go_simp; (try simp only [HW.out.1, HW.out.2, if_true]); try with_reducible rfl)
              try simp only [Act.put, List.getElem_toArray, List.getElem_cons_succ, List.getElem_cons_zero, List.setIfInBounds_toArray, List.set_cons_zero, List.set_cons_succ]
              refine AnyG.oneG (i := 12) (by kernel_rfl) rfl (by simp [Region.wanted, yielded]) ?_
              go_simp
              refine (rng_any _ _ _).mono ?_
              rintro e y2 ⟨rfl, hr⟩
              have hS2 : Below Y.heap.size Y y2 := Below.trans hS (hr.mono hS.size)
              clear hS hr
              refine Onward.on hS2 (fun hS => ?_)
              clear hS2
              try simp only [Act.put, List.getElem_toArray, List.getElem_cons_succ, List.getElem_cons_zero, List.setIfInBounds_toArray, List.set_cons_zero, List.set_cons_succ]
              refine AnyG.takeG (i := 13) (v := ?_) rfl (by kernel_rfl) (fun _ _ _ h => h) (by simp [Region.wanted, yielded]) ?_ hS ?_
              rotate_left
              · (intro w' hSw; (try dsimp only at hSw); go_simp; (try simp only [HW.out.1, HW.out.2, if_true]); try with_reducible rfl)
              try simp only [Act.put, List.getElem_toArray, List.getElem_cons_succ, List.getElem_cons_zero, List.setIfInBounds_toArray, List.set_cons_zero, List.set_cons_succ]
              refine AnyG.take (i := 14) (v := ?_) rfl (by kernel_rfl) (fun _ _ _ h => h) rfl ?_ hS ?_
              rotate_left
              · (intro w' hSw; (try dsimp only at hSw); go_simp; try with_reducible rfl)
              try simp only [Act.put, List.getElem_toArray, List.getElem_cons_succ, List.getElem_cons_zero, List.setIfInBounds_toArray, List.set_cons_zero, List.set_cons_succ]
              refine AnyG.done (by kernel_rfl) ?_ _
              go_simp
              go_wp2_with fail
              go_roundw
              case rel =>
                repeat (refine Exists.intro ?_ ?_; rotate_left)
                refine And.intro ?_ ?_
                rotate_left
                · rfl
                exact ⟨3, 1, 2, by go_num, by omega, kS3.call hS, kX3.call hS, hB3.trans (hS.mono hB3.size)⟩
              case measure => simp [intOf]
            · have hlo : dsLo 2 0 d0 d1 = (-d1) := by unfold dsLo drLo drHi; simp <;> omega
              have hhi : dsHi 2 0 d0 d1 = 0 := by unfold dsHi drLo drHi; simp <;> omega
              have HW := Lib.hid (And.intro (IntWalk.i64_in (N1 + (-d1)) (by omega)) (IntWalk.i64_in N2 (by omega)))
              have HLO := Lib.hid (And.intro hlo hhi)
              clear hlo hhi
              have kW : Bx (World.setCell (World.setCell wr ⟨V.heap.size, 2, none⟩ (.int .i64 2)) ⟨V.heap.size, 3, none⟩ (.int .i64 0)) V.heap.size 50 #[.slice FA fn fc, .slice BA bn bc, .int .i64 2, .int .i64 0, .int .i64 d0, .int .i64 d1] := by simpa using (kS.set_ 2 (.int .i64 2)).set_ 3 (.int .i64 0)
              have kXW : Bx (World.setCell (World.setCell wr ⟨V.heap.size, 2, none⟩ (.int .i64 2)) ⟨V.heap.size, 3, none⟩ (.int .i64 0)) x1.heap.size 23 #[.int .i64 N1, .int .i64 N2] := (kX.far (by simp; omega) _).far (by simp; omega) _
              have hBW : Below V.heap.size V (World.setCell (World.setCell wr ⟨V.heap.size, 2, none⟩ (.int .i64 2)) ⟨V.heap.size, 3, none⟩ (.int .i64 0)) := (hB.setCell (by simp) _).setCell (by simp) _
              obtain ⟨s0, s1, s2, s3, s4, s5, sf, sz⟩ := kS.six
              go_upto_region 27 with (first | (go_at_call 29; refine (NET.out 2 0 _ (by omega) (by omega) (by omega) (by omega) hBW).mono ?_; rintro e y1 ⟨rfl, hq⟩; rw [HLO.out.1, HLO.out.2]; have kS2 := kW.call hq; have kX2 := kXW.call hq; have hB2 := hBW.trans (hq.mono hBW.size); clear s0 s1 s2 s3 s4 s5 sf sz; obtain ⟨s0, s1, s2, s3, s4, s5, sf, sz⟩ := kS2.six) | fail)
              have k12 := Bx.new y1 23 #[.int .i64 (N1 + (-d1)), .int .i64 N2]
              have kS3 := kS2.alloc (.cells #[.int .i64 (N1 + (-d1)), .int .i64 N2] 23)
              have kX3 := kX2.alloc (.cells #[.int .i64 (N1 + (-d1)), .int .i64 N2] 23)
              have hB3 := hB2.alloc hB2.size (.cells #[.int .i64 (N1 + (-d1)), .int .i64 N2] 23)
              obtain ⟨Y, hY⟩ : ∃ Y, y1.alloc (.cells #[.int .i64 (N1 + (-d1)), .int .i64 N2] 23) = Y := ⟨_, rfl⟩
              rw [hY] at k12 kS3 kX3 hB3 ⊢
              clear hY kS2 kX2 hB2 kW kXW hBW s0 s1 s2 s3 s4 s5 sf sz l0 l1 l2 l3 lf lz
              refine AnyG.start (fun w' : World => Below Y.heap.size Y w') (fun i => true) (by kernel_rfl) ?_
              have hS : (fun w' : World => Below Y.heap.size Y w') (World.drew _) := (Below.refl _ _).drew
              refine AnyG.take (i := 0) (v := ?_) rfl (by kernel_rfl) (fun _ _ _ h => h) rfl ?_ hS ?_
              rotate_left
              · (intro w' hSw; (try dsimp only at hSw); go_simp; try with_reducible rfl)
              try simp only [Act.put, List.getElem_toArray, List.getElem_cons_succ, List.getElem_cons_zero, List.setIfInBounds_toArray, List.set_cons_zero, List.set_cons_succ]
              refine AnyG.take (i := 1) (v := ?_) rfl (by kernel_rfl) (fun _ _ _ h => h) rfl ?_ hS ?_
              rotate_left
              · (intro w' hSw; (try dsimp only at hSw); go_simp; try with_reducible rfl)
              try simp only [Act.put, List.getElem_toArray, List.getElem_cons_succ, List.getElem_cons_zero, List.setIfInBounds_toArray, List.set_cons_zero, List.set_cons_succ]
              refine AnyG.take (i := 2) (v := ?_) rfl (by kernel_rfl) (fun _ _ _ h => h) rfl ?_ hS ?_
              rotate_left
              · (intro w' hSw; (try dsimp only at hSw); go_simp; try with_reducible rfl)
              try simp only [Act.put, List.getElem_toArray, List.getElem_cons_succ, List.getElem_cons_zero, List.setIfInBounds_toArray, List.set_cons_zero, List.set_cons_succ]
              refine AnyG.takeG (i := 3) (v := ?_) rfl (by kernel_rfl) (fun _ _ _ h => h) (by simp [Region.wanted, yielded]) ?_ hS ?_
              rotate_left
              · (intro w' hSw; (try dsimp only at hSw); obtain ⟨r0, r1, rf, rz⟩ := (k12.call hSw).two; go_simp; (try simp only [HW.out.1, HW.out.2, if_true]); try with_reducible rfl)
              try simp only [Act.put, List.getElem_toArray, List.getElem_cons_succ, List.getElem_cons_zero, List.setIfInBounds_toArray, List.set_cons_zero, List.set_cons_succ]
              refine AnyG.takeG (i := 4) (v := ?_) rfl (by kernel_rfl) (fun _ _ _ h => h) (by simp [Region.wanted, yielded]) ?_ hS ?_
              rotate_left
              · (intro w' hSw; (try dsimp only at hSw); go_simp; (try simp only [HW.out.1, HW.out.2, if_true]); try with_reducible rfl)
              try simp only [Act.put, List.getElem_toArray, List.getElem_cons_succ, List.getElem_cons_zero, List.setIfInBounds_toArray, List.set_cons_zero, List.set_cons_succ]
              refine AnyG.takeG (i := 5) (v := ?_) rfl (by kernel_rfl) (fun _ _ _ h => h) (by simp [Region.wanted, yielded]) ?_ hS ?_
              rotate_left
              · (intro w' hSw; (try dsimp only at hSw); obtain ⟨r0, r1, rf, rz⟩ := (kX3.call hSw).two; go_simp; (try simp only [HW.out.1, HW.out.2, if_true]); try with_reducible rfl)
              try simp only [Act.put, List.getElem_toArray, List.getElem_cons_succ, List.getElem_cons_zero, List.setIfInBounds_toArray, List.set_cons_zero, List.set_cons_succ]
              refine AnyG.takeG (i := 6) (v := ?_) rfl (by kernel_rfl) (fun _ _ _ h => h) (by simp [Region.wanted, yielded]) ?_ hS ?_
              rotate_left
              · (intro w' hSw; (try dsimp only at hSw); go_simp; (try simp only [HW.out.1, HW.out.2, if_true]); try with_reducible rfl)
              try simp only [Act.put, List.getElem_toArray, List.getElem_cons_succ, List.getElem_cons_zero, List.setIfInBounds_toArray, List.set_cons_zero, List.set_cons_succ]
              refine AnyG.takeG (i := 7) (v := ?_) rfl (by kernel_rfl) (fun _ _ _ h => h) (by simp [Region.wanted, yielded]) ?_ hS ?_
              rotate_left
              · (intro w' hSw; (try dsimp only at hSw); go_simp; (try simp only [HW.out.1, HW.out.2, if_true]); try with_reducible rfl)
              try simp only [Act.put, List.getElem_toArray, List.getElem_cons_succ, List.getElem_cons_zero, List.setIfInBounds_toArray, List.set_cons_zero, List.set_cons_succ]
              refine AnyG.takeG (i := 8) (v := ?_) rfl (by kernel_rfl) (fun _ _ _ h => h) (by simp [Region.wanted, yielded]) ?_ hS ?_
              rotate_left
              · (intro w' hSw; (try dsimp only at hSw); go_simp; (try simp only [HW.out.1, HW.out.2, if_true]); try with_reducible rfl)
              try simp only [Act.put, List.getElem_toArray, List.getElem_cons_succ, List.getElem_cons_zero, List.setIfInBounds_toArray, List.set_cons_zero, List.set_cons_succ]
              refine AnyG.takeG (i := 9) (v := ?_) rfl (by kernel_rfl) (fun _ _ _ h => h) (by simp [Region.wanted, yielded]) ?_ hS ?_
              rotate_left
              · (intro w' hSw; (try dsimp only at hSw); obtain ⟨r0, r1, rf, rz⟩ := (kX3.call hSw).two; go_simp; (try simp only [HW.out.1, HW.out.2, if_true]); try with_reducible rfl)
              try simp only [Act.put, List.getElem_toArray, List.getElem_cons_succ, List.getElem_cons_zero, List.setIfInBounds_toArray, List.set_cons_zero, List.set_cons_succ]
              refine AnyG.takeG (i := 10) (v := ?_) rfl (by kernel_rfl) (fun _ _ _ h => h) (by simp [Region.wanted, yielded]) ?_ hS ?_
              rotate_left
              · (intro w' hSw; (try dsimp only at hSw); go_simp; (try simp only [HW.out.1, HW.out.2, if_true]); try with_reducible rfl)
              try simp only [Act.put, List.getElem_toArray, List.getElem_cons_succ, List.getElem_cons_zero, List.setIfInBounds_toArray, List.set_cons_zero, List.set_cons_succ]
              refine AnyG.takeG (i := 11) (v := ?_) rfl (by kernel_rfl) (fun _ _ _ h => h) (by simp [Region.wanted, yielded]) ?_ hS ?_
              rotate_left
              · (intro w' hSw; (try dsimp only at hSw); go_simp; (try simp only [HW.out.1, HW.out.2, if_true]); try with_reducible rfl)
              try simp only [Act.put, List.getElem_toArray, List.getElem_cons_succ, List.getElem_cons_zero, List.setIfInBounds_toArray, List.set_cons_zero, List.set_cons_succ]
              refine AnyG.oneG (i := 12) (by kernel_rfl) rfl (by simp [Region.wanted, yielded]) ?_
              go_simp
              refine (rng_any _ _ _).mono ?_
              rintro e y2 ⟨rfl, hr⟩
              have hS2 : Below Y.heap.size Y y2 := Below.trans hS (hr.mono hS.size)
              clear hS hr
              refine Onward.on hS2 (fun hS => ?_)
              clear hS2
              try simp only [Act.put, List.getElem_toArray, List.getElem_cons_succ, List.getElem_cons_zero, List.setIfInBounds_toArray, List.set_cons_zero, List.set_cons_succ]
              refine AnyG.takeG (i := 13) (v := ?_) rfl (by kernel_rfl) (fun _ _ _ h => h) (by simp [Region.wanted, yielded]) ?_ hS ?_
              rotate_left
              · (intro w' hSw; (try dsimp only at hSw); go_simp; (try simp only [HW.out.1, HW.out.2, if_true]); try with_reducible rfl)
              try simp only [Act.put, List.getElem_toArray, List.getElem_cons_succ, List.getElem_cons_zero, List.setIfInBounds_toArray, List.set_cons_zero, List.set_cons_succ]
              refine AnyG.take (i := 14) (v := ?_) rfl (by kernel_rfl) (fun _ _ _ h => h) rfl ?_ hS ?_
              rotate_left
              · (intro w' hSw; (try dsimp only at hSw); go_simp; try with_reducible rfl)
              try simp only [Act.put, List.getElem_toArray, List.getElem_cons_succ, List.getElem_cons_zero, List.setIfInBounds_toArray, List.set_cons_zero, List.set_cons_succ]
              refine AnyG.done (by kernel_rfl) ?_ _
              go_simp
              go_wp2_with fail
              go_roundw
              case rel =>
                repeat (refine Exists.intro ?_ ?_; rotate_left)
                refine And.intro ?_ ?_
                rotate_left
                · rfl
                exact ⟨1, 2, 0, by go_num, by omega, kS3.call hS, kX3.call hS, hB3.trans (hS.mono hB3.size)⟩
              case measure => simp [intOf]
            · have hlo : dsLo 2 1 d0 d1 = 0 := by unfold dsLo drLo drHi; simp <;> omega
              have hhi : dsHi 2 1 d0 d1 = d1 := by unfold dsHi drLo drHi; simp <;> omega
              have HW := Lib.hid (And.intro (IntWalk.i64_in N1 (by omega)) (IntWalk.i64_in (N2 + d1) (by omega)))
              have HLO := Lib.hid (And.intro hlo hhi)
              clear hlo hhi
              have kW : Bx (World.setCell (World.setCell wr ⟨V.heap.size, 2, none⟩ (.int .i64 2)) ⟨V.heap.size, 3, none⟩ (.int .i64 1)) V.heap.size 50 #[.slice FA fn fc, .slice BA bn bc, .int .i64 2, .int .i64 1, .int .i64 d0, .int .i64 d1] := by simpa using (kS.set_ 2 (.int .i64 2)).set_ 3 (.int .i64 1)
              have kXW : Bx (World.setCell (World.setCell wr ⟨V.heap.size, 2, none⟩ (.int .i64 2)) ⟨V.heap.size, 3, none⟩ (.int .i64 1)) x1.heap.size 23 #[.int .i64 N1, .int .i64 N2] := (kX.far (by simp; omega) _).far (by simp; omega) _
              have hBW : Below V.heap.size V (World.setCell (World.setCell wr ⟨V.heap.size, 2, none⟩ (.int .i64 2)) ⟨V.heap.size, 3, none⟩ (.int .i64 1)) := (hB.setCell (by simp) _).setCell (by simp) _
              obtain ⟨s0, s1, s2, s3, s4, s5, sf, sz⟩ := kS.six
              go_upto_region 27 with (first | (go_at_call 29; refine (NET.out 2 1 _ (by omega) (by omega) (by omega) (by omega) hBW).mono ?_; rintro e y1 ⟨rfl, hq⟩; rw [HLO.out.1, HLO.out.2]; have kS2 := kW.call hq; have kX2 := kXW.call hq; have hB2 := hBW.trans (hq.mono hBW.size); clear s0 s1 s2 s3 s4 s5 sf sz; obtain ⟨s0, s1, s2, s3, s4, s5, sf, sz⟩ := kS2.six) | fail)
              have k12 := Bx.new y1 23 #[.int .i64 N1, .int .i64 (N2 + d1)]
              have kS3 := kS2.alloc (.cells #[.int .i64 N1, .int .i64 (N2 + d1)] 23)
              have kX3 := kX2.alloc (.cells #[.int .i64 N1, .int .i64 (N2 + d1)] 23)
              have hB3 := hB2.alloc hB2.size (.cells #[.int .i64 N1, .int .i64 (N2 + d1)] 23)
              obtain ⟨Y, hY⟩ : ∃ Y, y1.alloc (.cells #[.int .i64 N1, .int .i64 (N2 + d1)] 23) = Y := ⟨_, rfl⟩
              rw [hY] at k12 kS3 kX3 hB3 ⊢
              clear hY kS2 kX2 hB2 kW kXW hBW s0 s1 s2 s3 s4 s5 sf sz l0 l1 l2 l3 lf lz
              refine AnyG.start (fun w' : World => Below Y.heap.size Y w') (fun i => true) (by kernel_rfl) ?_
              have hS : (fun w' : World => Below Y.heap.size Y w') (World.drew _) := (Below.refl _ _).drew
              refine AnyG.take (i := 0) (v := ?_) rfl (by kernel_rfl) (fun _ _ _ h => h) rfl ?_ hS ?_
              rotate_left
              · (intro w' hSw; (try dsimp only at hSw); go_simp; try with_reducible rfl)
              try simp only [Act.put, List.getElem_toArray, List.getElem_cons_succ, List.getElem_cons_zero, List.setIfInBounds_toArray, List.set_cons_zero, List.set_cons_succ]
              refine AnyG.take (i := 1) (v := ?_) rfl (by kernel_rfl) (fun _ _ _ h => h) rfl ?_ hS ?_
              rotate_left
              · (intro w' hSw; (try dsimp only at hSw); go_simp; try with_reducible rfl)
              try simp only [Act.put, List.getElem_toArray, List.getElem_cons_succ, List.getElem_cons_zero, List.setIfInBounds_toArray, List.set_cons_zero, List.set_cons_succ]
              refine AnyG.take (i := 2) (v := ?_) rfl (by kernel_rfl) (fun _ _ _ h => h) rfl ?_ hS ?_
              rotate_left
              · (intro w' hSw; (try dsimp only at hSw); go_simp; try with_reducible rfl)
              try simp only [Act.put, List.getElem_toArray, List.getElem_cons_succ, List.getElem_cons_zero, List.setIfInBounds_toArray, List.set_cons_zero, List.set_cons_succ]
              refine AnyG.takeG (i := 3) (v := ?_) rfl (by kernel_rfl) (fun _ _ _ h => h) (by simp [Region.wanted, yielded]) ?_ hS ?_
              rotate_left
              · (intro w' hSw; (try dsimp only at hSw); obtain ⟨r0, r1, rf, rz⟩ := (k12.call hSw).two; go_simp; (try simp only [HW.out.1, HW.out.2, if_true]); try with_reducible rfl)
              try simp only [Act.put, List.getElem_toArray, List.getElem_cons_succ, List.getElem_cons_zero, List.setIfInBounds_toArray, List.set_cons_zero, List.set_cons_succ]
              refine AnyG.takeG (i := 4) (v := ?_) rfl (by kernel_rfl) (fun _ _ _ h => h) (by simp [Region.wanted, yielded]) ?_ hS ?_
              rotate_left
              · (intro w' hSw; (try dsimp only at hSw); go_simp; (try simp only [HW.out.1, HW.out.2, if_true]); try with_reducible rfl)
              try simp only [Act.put, List.getElem_toArray, List.getElem_cons_succ, List.getElem_cons_zero, List.setIfInBounds_toArray, List.set_cons_zero, List.set_cons_succ]
              refine AnyG.takeG (i := 5) (v := ?_) rfl (by kernel_rfl) (fun _ _ _ h => h) (by simp [Region.wanted, yielded]) ?_ hS ?_
              rotate_left
              · (intro w' hSw; (try dsimp only at hSw); obtain ⟨r0, r1, rf, rz⟩ := (kX3.call hSw).two; go_simp; (try simp only [HW.out.1, HW.out.2, if_true]); try with_reducible rfl)
              try simp only [Act.put, List.getElem_toArray, List.getElem_cons_succ, List.getElem_cons_zero, List.setIfInBounds_toArray, List.set_cons_zero, List.set_cons_succ]
              refine AnyG.takeG (i := 6) (v := ?_) rfl (by kernel_rfl) (fun _ _ _ h => h) (by simp [Region.wanted, yielded]) ?_ hS ?_
              rotate_left
              · (intro w' hSw; (try dsimp only at hSw); go_simp; (try simp only [HW.out.1, HW.out.2, if_true]); try with_reducible rfl)
              try simp only [Act.put, List.getElem_toArray, List.getElem_cons_succ, List.getElem_cons_zero, List.setIfInBounds_toArray, List.set_cons_zero, List.set_cons_succ]
              refine AnyG.takeG (i := 7) (v := ?_) rfl (by kernel_rfl) (fun _ _ _ h => h) (by simp [Region.wanted, yielded]) ?_ hS ?_
              rotate_left
              · (intro w' hSw; (try dsimp only at hSw); go_simp; (try simp only [HW.out.1, HW.out.2, if_true]); try with_reducible rfl)
              try simp only [Act.put, List.getElem_toArray, List.getElem_cons_succ, List.getElem_cons_zero, List.setIfInBounds_toArray, List.set_cons_zero, List.set_cons_succ]
              refine AnyG.takeG (i := 8) (v := ?_) rfl (by kernel_rfl) (fun _ _ _ h => h) (by simp [Region.wanted, yielded]) ?_ hS ?_
              rotate_left
              · (intro w' hSw; (try dsimp only at hSw); go_simp; (try simp only [HW.out.1, HW.out.2, if_true]); try with_reducible rfl)
              try simp only [Act.put, List.getElem_toArray, List.getElem_cons_succ, List.getElem_cons_zero, List.setIfInBounds_toArray, List.set_cons_zero, List.set_cons_succ]
              refine AnyG.takeG (i := 9) (v := ?_) rfl (by kernel_rfl) (fun _ _ _ h => h) (by simp [Region.wanted, yielded]) ?_ hS ?_
              rotate_left
              · (intro w' hSw; (try dsimp only at hSw); obtain ⟨r0, r1, rf, rz⟩ := (kX3.call hSw).two; go_simp; (try simp only [HW.out.1, HW.out.2, if_true]); try with_reducible rfl)
              try simp only [Act.put, List.getElem_toArray, List.getElem_cons_succ, List.getElem_cons_zero, List.setIfInBounds_toArray, List.set_cons_zero, List.set_cons_succ]
              refine AnyG.takeG (i := 10) (v := ?_) rfl (by kernel_rfl) (fun _ _ _ h => h) (by simp [Region.wanted, yielded]) ?_ hS ?_
              rotate_left
              · (intro w' hSw; (try dsimp only at hSw); go_simp; (try simp only [HW.out.1, HW.out.2, if_true]); try with_reducible rfl)
              try simp only [Act.put, List.getElem_toArray, List.getElem_cons_succ, List.getElem_cons_zero, List.setIfInBounds_toArray, List.set_cons_zero, List.set_cons_succ]
              refine AnyG.takeG (i := 11) (v := ?_) rfl (by kernel_rfl) (fun _ _ _ h => h) (by simp [Region.wanted, yielded]) ?_ hS ?_
              rotate_left
              · (intro w' hSw; (try dsimp only at hSw); go_simp; (try simp only [HW.out.1, HW.out.2, if_true]); try with_reducible rfl)
              try simp only [Act.put, List.getElem_toArray, List.getElem_cons_succ, List.getElem_cons_zero, List.setIfInBounds_toArray, List.set_cons_zero, List.set_cons_succ]
              refine AnyG.oneG (i := 12) (by kernel_rfl) rfl (by simp [Region.wanted, yielded]) ?_
              go_simp
              refine (rng_any _ _ _).mono ?_
              rintro e y2 ⟨rfl, hr⟩
              have hS2 : Below Y.heap.size Y y2 := Below.trans hS (hr.mono hS.size)
              clear hS hr
              refine Onward.on hS2 (fun hS => ?_)
              clear hS2
              try simp only [Act.put, List.getElem_toArray, List.getElem_cons_succ, List.getElem_cons_zero, List.setIfInBounds_toArray, List.set_cons_zero, List.set_cons_succ]
              refine AnyG.takeG (i := 13) (v := ?_) rfl (by kernel_rfl) (fun _ _ _ h => h) (by simp [Region.wanted, yielded]) ?_ hS ?_
              rotate_left
              · (intro w' hSw; (try dsimp only at hSw); go_simp; (try simp only [HW.out.1, HW.out.2, if_true]); try with_reducible rfl)
              try simp only [Act.put, List.getElem_toArray, List.getElem_cons_succ, List.getElem_cons_zero, List.setIfInBounds_toArray, List.set_cons_zero, List.set_cons_succ]
              refine AnyG.take (i := 14) (v := ?_) rfl (by kernel_rfl) (fun _ _ _ h => h) rfl ?_ hS ?_
              rotate_left
              · (intro w' hSw; (try dsimp only at hSw); go_simp; try with_reducible rfl)
              try simp only [Act.put, List.getElem_toArray, List.getElem_cons_succ, List.getElem_cons_zero, List.setIfInBounds_toArray, List.set_cons_zero, List.set_cons_succ]
              refine AnyG.done (by kernel_rfl) ?_ _
              go_simp
              go_wp2_with fail
              go_roundw
              case rel =>
                repeat (refine Exists.intro ?_ ?_; rotate_left)
                refine And.intro ?_ ?_
                rotate_left
                · rfl
                exact ⟨2, 2, 1, by go_num, by omega, kS3.call hS, kX3.call hS, hB3.trans (hS.mono hB3.size)⟩
              case measure => simp [intOf]
            · have hlo : dsLo 2 2 d0 d1 = (-d1) := by unfold dsLo drLo drHi; simp <;> omega
              have hhi : dsHi 2 2 d0 d1 = d1 := by unfold dsHi drLo drHi; simp <;> omega
              have HW := Lib.hid (And.intro (IntWalk.i64_in (N1 + (-d1)) (by omega)) (IntWalk.i64_in (N2 + d1) (by omega)))
              have HLO := Lib.hid (And.intro hlo hhi)
              clear hlo hhi
              have kW : Bx (World.setCell (World.setCell wr ⟨V.heap.size, 2, none⟩ (.int .i64 2)) ⟨V.heap.size, 3, none⟩ (.int .i64 2)) V.heap.size 50 #[.slice FA fn fc, .slice BA bn bc, .int .i64 2, .int .i64 2, .int .i64 d0, .int .i64 d1] := by simpa using (kS.set_ 2 (.int .i64 2)).set_ 3 (.int .i64 2)
              have kXW : Bx (World.setCell (World.setCell wr ⟨V.heap.size, 2, none⟩ (.int .i64 2)) ⟨V.heap.size, 3, none⟩ (.int .i64 2)) x1.heap.size 23 #[.int .i64 N1, .int .i64 N2] := (kX.far (by simp; omega) _).far (by simp; omega) _
              have hBW : Below V.heap.size V (World.setCell (World.setCell wr ⟨V.heap.size, 2, none⟩ (.int .i64 2)) ⟨V.heap.size, 3, none⟩ (.int .i64 2)) := (hB.setCell (by simp) _).setCell (by simp) _
              obtain ⟨s0, s1, s2, s3, s4, s5, sf, sz⟩ := kS.six
              go_upto_region 27 with (first | (go_at_call 29; refine (NET.out 2 2 _ (by omega) (by omega) (by omega) (by omega) hBW).mono ?_; rintro e y1 ⟨rfl, hq⟩; rw [HLO.out.1, HLO.out.2]; have kS2 := kW.call hq; have kX2 := kXW.call hq; have hB2 := hBW.trans (hq.mono hBW.size); clear s0 s1 s2 s3 s4 s5 sf sz; obtain ⟨s0, s1, s2, s3, s4, s5, sf, sz⟩ := kS2.six) | fail)
              have k12 := Bx.new y1 23 #[.int .i64 (N1 + (-d1)), .int .i64 (N2 + d1)]
              have kS3 := kS2.alloc (.cells #[.int .i64 (N1 + (-d1)), .int .i64 (N2 + d1)] 23)
              have kX3 := kX2.alloc (.cells #[.int .i64 (N1 + (-d1)), .int .i64 (N2 + d1)] 23)
              have hB3 := hB2.alloc hB2.size (.cells #[.int .i64 (N1 + (-d1)), .int .i64 (N2 + d1)] 23)
              obtain ⟨Y, hY⟩ : ∃ Y, y1.alloc (.cells #[.int .i64 (N1 + (-d1)), .int .i64 (N2 + d1)] 23) = Y := ⟨_, rfl⟩
              rw [hY] at k12 kS3 kX3 hB3 ⊢
              clear hY kS2 kX2 hB2 kW kXW hBW s0 s1 s2 s3 s4 s5 sf sz l0 l1 l2 l3 lf lz
              refine AnyG.start (fun w' : World => Below Y.heap.size Y w') (fun i => true) (by kernel_rfl) ?_
              have hS : (fun w' : World => Below Y.heap.size Y w') (World.drew _) := (Below.refl _ _).drew
              refine AnyG.take (i := 0) (v := ?_) rfl (by kernel_rfl) (fun _ _ _ h => h) rfl ?_ hS ?_
              rotate_left
              · (intro w' hSw; (try dsimp only at hSw); go_simp; try with_reducible rfl)
              try simp only [Act.put, List.getElem_toArray, List.getElem_cons_succ, List.getElem_cons_zero, List.setIfInBounds_toArray, List.set_cons_zero, List.set_cons_succ]
              refine AnyG.take (i := 1) (v := ?_) rfl (by kernel_rfl) (fun _ _ _ h => h) rfl ?_ hS ?_
              rotate_left
              · (intro w' hSw; (try dsimp only at hSw); go_simp; try with_reducible rfl)
              try simp only [Act.put, List.getElem_toArray, List.getElem_cons_succ, List.getElem_cons_zero, List.setIfInBounds_toArray, List.set_cons_zero, List.set_cons_succ]
              refine AnyG.take (i := 2) (v := ?_) rfl (by kernel_rfl) (fun _ _ _ h => h) rfl ?_ hS ?_
              rotate_left
              · (intro w' hSw; (try dsimp only at hSw); go_simp; try with_reducible rfl)
              try simp only [Act.put, List.getElem_toArray, List.getElem_cons_succ, List.getElem_cons_zero, List.setIfInBounds_toArray, List.set_cons_zero, List.set_cons_succ]
              refine AnyG.takeG (i := 3) (v := ?_) rfl (by kernel_rfl) (fun _ _ _ h => h) (by simp [Region.wanted, yielded]) ?_ hS ?_
              rotate_left
              · (intro w' hSw; (try dsimp only at hSw); obtain ⟨r0, r1, rf, rz⟩ := (k12.call hSw).two; go_simp; (try simp only [HW.out.1, HW.out.2, if_true]); try with_reducible rfl)
              try simp only [Act.put, List.getElem_toArray, List.getElem_cons_succ, List.getElem_cons_zero, List.setIfInBounds_toArray, List.set_cons_zero, List.set_cons_succ]
              refine AnyG.takeG (i := 4) (v := ?_) rfl (by kernel_rfl) (fun _ _ _ h => h) (by simp [Region.wanted, yielded]) ?_ hS ?_
              rotate_left
              · (intro w' hSw; (try dsimp only at hSw); go_simp; (try simp only [HW.out.1, HW.out.2, if_true]); try with_reducible rfl)
              try simp only [Act.put, List.getElem_toArray, List.getElem_cons_succ, List.getElem_cons_zero, List.setIfInBounds_toArray, List.set_cons_zero, List.set_cons_succ]
              refine AnyG.takeG (i := 5) (v := ?_) rfl (by kernel_rfl) (fun _ _ _ h => h) (by simp [Region.wanted, yielded]) ?_ hS ?_
              rotate_left
              · (intro w' hSw; (try dsimp only at hSw); obtain ⟨r0, r1, rf, rz⟩ := (kX3.call hSw).two; go_simp; (try simp only [HW.out.1, HW.out.2, if_true]); try with_reducible rfl)
              try simp only [Act.put, List.getElem_toArray, List.getElem_cons_succ, List.getElem_cons_zero, List.setIfInBounds_toArray, List.set_cons_zero, List.set_cons_succ]
              refine AnyG.takeG (i := 6) (v := ?_) rfl (by kernel_rfl) (fun _ _ _ h => h) (by simp [Region.wanted, yielded]) ?_ hS ?_
              rotate_left
              · (intro w' hSw; (try dsimp only at hSw); go_simp; (try simp only [HW.out.1, HW.out.2, if_true]); try with_reducible rfl)
              try simp only [Act.put, List.getElem_toArray, List.getElem_cons_succ, List.getElem_cons_zero, List.setIfInBounds_toArray, List.set_cons_zero, List.set_cons_succ]
              refine AnyG.takeG (i := 7) (v := ?_) rfl (by kernel_rfl) (fun _ _ _ h => h) (by simp [Region.wanted, yielded]) ?_ hS ?_
              rotate_left
              · (intro w' hSw; (try dsimp only at hSw); go_simp; (try simp only [HW.out.1, HW.out.2, if_true]); try with_reducible rfl)
              try simp only [Act.put, List.getElem_toArray, List.getElem_cons_succ, List.getElem_cons_zero, List.setIfInBounds_toArray, List.set_cons_zero, List.set_cons_succ]
              refine AnyG.takeG (i := 8) (v := ?_) rfl (by kernel_rfl) (fun _ _ _ h => h) (by simp [Region.wanted, yielded]) ?_ hS ?_
              rotate_left
              · (intro w' hSw; (try dsimp only at hSw); go_simp; (try simp only [HW.out.1, HW.out.2, if_true]); try with_reducible rfl)
              try simp only [Act.put, List.getElem_toArray, List.getElem_cons_succ, List.getElem_cons_zero, List.setIfInBounds_toArray, List.set_cons_zero, List.set_cons_succ]
              refine AnyG.takeG (i := 9) (v := ?_) rfl (by kernel_rfl) (fun _ _ _ h => h) (by simp [Region.wanted, yielded]) ?_ hS ?_
              rotate_left
              · (intro w' hSw; (try dsimp only at hSw); obtain ⟨r0, r1, rf, rz⟩ := (kX3.call hSw).two; go_simp; (try simp only [HW.out.1, HW.out.2, if_true]); try with_reducible rfl)
              try simp only [Act.put, List.getElem_toArray, List.getElem_cons_succ, List.getElem_cons_zero, List.setIfInBounds_toArray, List.set_cons_zero, List.set_cons_succ]
              refine AnyG.takeG (i := 10) (v := ?_) rfl (by kernel_rfl) (fun _ _ _ h => h) (by simp [Region.wanted, yielded]) ?_ hS ?_
              rotate_left
              · (intro w' hSw; (try dsimp only at hSw); go_simp; (try simp only [HW.out.1, HW.out.2, if_true]); try with_reducible rfl)
              try simp only [Act.put, List.getElem_toArray, List.getElem_cons_succ, List.getElem_cons_zero, List.setIfInBounds_toArray, List.set_cons_zero, List.set_cons_succ]
              refine AnyG.takeG (i := 11) (v := ?_) rfl (by kernel_rfl) (fun _ _ _ h => h) (by simp [Region.wanted, yielded]) ?_ hS ?_
              rotate_left
              · (intro w' hSw; (try dsimp only at hSw); go_simp; (try simp only [HW.out.1, HW.out.2, if_true]); try with_reducible rfl)
              try simp only [Act.put, List.getElem_toArray, List.getElem_cons_succ, List.getElem_cons_zero, List.setIfInBounds_toArray, List.set_cons_zero, List.set_cons_succ]
              refine AnyG.oneG (i := 12) (by kernel_rfl) rfl (by simp [Region.wanted, yielded]) ?_
              go_simp
              refine (rng_any _ _ _).mono ?_
              rintro e y2 ⟨rfl, hr⟩
              have hS2 : Below Y.heap.size Y y2 := Below.trans hS (hr.mono hS.size)
              clear hS hr
              refine Onward.on hS2 (fun hS => ?_)
              clear hS2
              try simp only [Act.put, List.getElem_toArray, List.getElem_cons_succ, List.getElem_cons_zero, List.setIfInBounds_toArray, List.set_cons_zero, List.set_cons_succ]
              refine AnyG.takeG (i := 13) (v := ?_) rfl (by kernel_rfl) (fun _ _ _ h => h) (by simp [Region.wanted, yielded]) ?_ hS ?_
              rotate_left
              · (intro w' hSw; (try dsimp only at hSw); go_simp; (try simp only [HW.out.1, HW.out.2, if_true]); try with_reducible rfl)
              try simp only [Act.put, List.getElem_toArray, List.getElem_cons_succ, List.getElem_cons_zero, List.setIfInBounds_toArray, List.set_cons_zero, List.set_cons_succ]
              refine AnyG.take (i := 14) (v := ?_) rfl (by kernel_rfl) (fun _ _ _ h => h) rfl ?_ hS ?_
              rotate_left
              · (intro w' hSw; (try dsimp only at hSw); go_simp; try with_reducible rfl)
              try simp only [Act.put, List.getElem_toArray, List.getElem_cons_succ, List.getElem_cons_zero, List.setIfInBounds_toArray, List.set_cons_zero, List.set_cons_succ]
              refine AnyG.done (by kernel_rfl) ?_ _
              go_simp
              go_wp2_with fail
              go_roundw
              case rel =>
                repeat (refine Exists.intro ?_ ?_; rotate_left)
                refine And.intro ?_ ?_
                rotate_left
                · rfl
                exact ⟨3, 2, 2, by go_num, by omega, kS3.call hS, kX3.call hS, hB3.trans (hS.mono hB3.size)⟩
              case measure => simp [intOf]
          · obtain rfl : j = 3 := by omega
            go_wp2_with fail
            go_roundw
            case rel => exact ⟨i + 1, u, v, by go_num, by omega, kS, kX, hB⟩
            case measure => simp [intOf]; omega
      · obtain rfl : i = 3 := by omega
        go_wp2_with (first | (go_at_call 14; refine (awake_any _).mono ?_; rintro e x7 ⟨rfl, hq7⟩) | fail)
        go_ret
        exact ⟨rfl, (hBV.trans (hB.mono hBV.size)).trans (hq7.mono ((hBV.trans (hB.mono hBV.size)).size))⟩
end Go.Proofs.Ytgbogdckmfencaa
