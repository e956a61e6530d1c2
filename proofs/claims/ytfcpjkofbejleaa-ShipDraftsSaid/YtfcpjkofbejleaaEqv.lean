/- EqualVoyages 31 of a voyage and its copy. -/
import Derived.Test.YtfcpjkofbejleaaRcaM
import Derived.Test.YtfcpjkofbejleaaNb
set_option linter.unusedSimpArgs false
set_option linter.unusedVariables false
namespace Go.Proofs.Ytfcpjkofbejleaa
open Go Go.RowKit
theorem Bx.set3 {w : World} {b t : Nat} {a0 a1 a2 : Value} (h : Bx w b t #[a0, a1, a2]) (v0 v1 v2 : Value) : Bx (((w.setCell ⟨b, 0, none⟩ v0).setCell ⟨b, 1, none⟩ v1).setCell ⟨b, 2, none⟩ v2) b t #[v0, v1, v2] := by simpa using ((h.set_ 0 v0).set_ 1 v1).set_ 2 v2
theorem Bx.far3 {w : World} {g t b : Nat} {cs : Array Value} (h : Bx w g t cs) (hne : g ≠ b) (v0 v1 v2 : Value) : Bx (((w.setCell ⟨b, 0, none⟩ v0).setCell ⟨b, 1, none⟩ v1).setCell ⟨b, 2, none⟩ v2) g t cs := ((h.far hne v0).far hne v1).far hne v2
theorem below3 {B : Nat} {w x : World} {b : Nat} (h : Below B w x) (hb : B ≤ b) (v0 v1 v2 : Value) : Below B w (((x.setCell ⟨b, 0, none⟩ v0).setCell ⟨b, 1, none⟩ v1).setCell ⟨b, 2, none⟩ v2) := ((h.setCell hb v0).setCell hb v1).setCell hb v2
@[local go_sem] theorem eq85v (a b c d e f : Int) (w : World) : (Op.equalIn 10000 85 (.agg #[.int .i64 a, .int .i64 b, .int .i64 c]) (.agg #[.int .i64 d, .int .i64 e, .int .i64 f])).run Try.prog w = .ok (a == d && b == e && c == f) w := by
  have u3 := Try.underlying3
  have a3 := Try.isAgg3
  have z3 := Try.sizeOf3
  have hS : Try.prog.underlying 85 = some (.struct (Try.prog.fieldsOf 85)) := by kernel_rfl
  have hp : Try.prog.stoodInHeld 85 = false := by kernel_rfl
  rw [show (10000 : Nat) = 9999 + 1 from rfl, run_equalIn_agg w 9999 85 _ _ hS hp]
  simp only [Program.fieldsOf, Try.underlying85]
  go_simp
  by_cases h0 : a = d <;> by_cases h1 : b = e <;> by_cases h2 : c = f <;> simp [h0, h1, h2]
@[local go_sem] theorem eq70v (a b c d e f : Int) (w : World) : (Op.equalIn 10000 70 (.agg #[.int .i64 a, .int .i64 b, .int .i64 c]) (.agg #[.int .i64 d, .int .i64 e, .int .i64 f])).run Try.prog w = .ok (a == d && b == e && c == f) w := by
  have u3 := Try.underlying3
  have a3 := Try.isAgg3
  have z3 := Try.sizeOf3
  have hS : Try.prog.underlying 70 = some (.struct (Try.prog.fieldsOf 70)) := by kernel_rfl
  have hp : Try.prog.stoodInHeld 70 = false := by kernel_rfl
  rw [show (10000 : Nat) = 9999 + 1 from rfl, run_equalIn_agg w 9999 70 _ _ hS hp]
  simp only [Program.fieldsOf, Try.underlying70]
  go_simp
  by_cases h0 : a = d <;> by_cases h1 : b = e <;> by_cases h2 : c = f <;> simp [h0, h1, h2]
@[local go_sem] theorem eq75v (a b c d e f : Int) (w : World) : (Op.equalIn 10000 75 (.agg #[.int .i64 a, .int .i64 b, .int .i64 c]) (.agg #[.int .i64 d, .int .i64 e, .int .i64 f])).run Try.prog w = .ok (a == d && b == e && c == f) w := by
  have u3 := Try.underlying3
  have a3 := Try.isAgg3
  have z3 := Try.sizeOf3
  have hS : Try.prog.underlying 75 = some (.struct (Try.prog.fieldsOf 75)) := by kernel_rfl
  have hp : Try.prog.stoodInHeld 75 = false := by kernel_rfl
  rw [show (10000 : Nat) = 9999 + 1 from rfl, run_equalIn_agg w 9999 75 _ _ hS hp]
  simp only [Program.fieldsOf, Try.underlying75]
  go_simp
  by_cases h0 : a = d <;> by_cases h1 : b = e <;> by_cases h2 : c = f <;> simp [h0, h1, h2]
attribute [local go_sem] eq41
set_option maxRecDepth 100000 in
set_option maxHeartbeats 8000000 in
theorem equalVoyages_same (v : Vg) (PA : Option Addr) (hn pc : Nat) (PS : Option Addr) (sn ps : Nat) (PL : Option Addr) (ln pl : Nat) (QA : Option Addr) (qc : Nat) (QS : Option Addr) (qs : Nat) (QL : Option Addr) (ql : Nat) (w : World) (ho : v.Slim) (hP : VoyAt w w.heap.size v ⟨PA, hn, pc, PS, sn, ps, PL, ln, pl⟩) (hQ : VoyAt w w.heap.size v ⟨QA, hn, qc, QS, sn, qs, QL, ln, ql⟩) :
    Calls Try.prog 31 #[.agg #[.int .i64 v.li, .int .i64 v.un, .int .i64 v.tr, .slice PA hn pc, .int .i64 v.le, .slice PS sn ps, .slice PL ln pl], .agg #[.int .i64 v.li, .int .i64 v.un, .int .i64 v.tr, .slice QA hn qc, .int .i64 v.le, .slice QS sn qs, .slice QL ln ql]] w fun e w' => e = .returned (.bool true) ∧ Below w.heap.size w w' := by
  have k1 := (Bx.new w 26 #[.int .i64 v.li, .int .i64 v.un, .int .i64 v.tr, .slice PA hn pc, .int .i64 v.le, .slice PS sn ps, .slice PL ln pl]).alloc (.cells #[.int .i64 v.li, .int .i64 v.un, .int .i64 v.tr, .slice QA hn qc, .int .i64 v.le, .slice QS sn qs, .slice QL ln ql] 26)
  have k2 := Bx.at (w.alloc (.cells #[.int .i64 v.li, .int .i64 v.un, .int .i64 v.tr, .slice PA hn pc, .int .i64 v.le, .slice PS sn ps, .slice PL ln pl] 26)) 26 #[.int .i64 v.li, .int .i64 v.un, .int .i64 v.tr, .slice QA hn qc, .int .i64 v.le, .slice QS sn qs, .slice QL ln ql] (n := w.heap.size + 1) (by simp)
  have B0 := ((Below.refl w.heap.size w).alloc (Nat.le_refl _) (.cells #[.int .i64 v.li, .int .i64 v.un, .int .i64 v.tr, .slice PA hn pc, .int .i64 v.le, .slice PS sn ps, .slice PL ln pl] 26)).alloc (by simp) (.cells #[.int .i64 v.li, .int .i64 v.un, .int .i64 v.tr, .slice QA hn qc, .int .i64 v.le, .slice QS sn qs, .slice QL ln ql] 26)
  obtain ⟨V, hV⟩ : ∃ V, (w.alloc (.cells #[.int .i64 v.li, .int .i64 v.un, .int .i64 v.tr, .slice PA hn pc, .int .i64 v.le, .slice PS sn ps, .slice PL ln pl] 26)).alloc (.cells #[.int .i64 v.li, .int .i64 v.un, .int .i64 v.tr, .slice QA hn qc, .int .i64 v.le, .slice QS sn qs, .slice QL ln ql] 26) = V := ⟨_, rfl⟩
  have hP1 := hP.call B0
  have hQ1 := hQ.call B0
  rw [hV] at k1 k2 B0 hP1 hQ1
  have hhn : hn ≤ 20 := by rw [← show v.hs.length = hn from hP.hl]; exact ho.h20
  have hsn : sn ≤ 20 := by rw [← show v.ss.length = sn from hP.sl]; exact ho.s20
  have hln : ln ≤ 20 := by rw [← show v.ls.length = ln from hP.ll]; exact ho.l20
  have HH := Lib.hid (show v.hs.length = hn from hP.hl)
  have HS := Lib.hid (show v.ss.length = sn from hP.sl)
  have HL := Lib.hid (show v.ls.length = ln from hP.ll)
  have HV := Lib.hid hV
  have HK1 := Lib.hid k1
  have HK2 := Lib.hid k2
  have HGG := Lib.hid ho.v20
  have hP_hs : Sl V V.heap.size 3 PA (v.hs.map hdr) := hP1.hs
  have hQ_hs : Sl V V.heap.size 3 QA (v.hs.map hdr) := hQ1.hs
  have hP_ls : Sl V V.heap.size 3 PL (v.ls.map cgr) := hP1.ls
  have hQ_ls : Sl V V.heap.size 3 QL (v.ls.map cgr) := hQ1.ls
  have hP_ss : SisAt V V.heap.size PS v.ss := hP1.ss
  have hQ_ss : SisAt V V.heap.size QS v.ss := hQ1.ss
  clear hV hP hQ ho k1 k2 hP1 hQ1
  have hBV := Below.refl V.heap.size V
  obtain ⟨l0, l1, l2, l3, l4, l5, l6, lf', lz⟩ := (HK1.out.call hBV).seven
  obtain ⟨m0, m1, m2, m3, m4, m5, m6, mf', mz⟩ := (HK2.out.call hBV).seven
  go_enter Try.func31, Try.ntmps31
  go_upto_region 1 with fail
  rw [HV.out]
  go_wp2_with fail
  clear l0 l1 l2 l3 l4 l5 l6 lf' lz m0 m1 m2 m3 m4 m5 m6 mf' mz
  go_loopw [5, 6] (fun b x wr => ∃ (i : Nat), x = .int .i64 i ∧ i ≤ hn ∧ b = .bool true ∧ Below V.heap.size V wr) (fun _ x _ => hn - (intOf x).toNat)
  case atStart => exact ⟨0, rfl, by omega, rfl, hBV⟩
  case round =>
    clear hBV
    obtain ⟨i, rfl, hi, rfl, hBV⟩ := hrel
    obtain ⟨l0, l1, l2, l3, l4, l5, l6, lf', lz⟩ := (HK1.out.call hBV).seven
    obtain ⟨m0, m1, m2, m3, m4, m5, m6, mf', mz⟩ := (HK2.out.call hBV).seven
    by_cases hin : i < hn
    · have hil : i < v.hs.length := by rw [HH.out]; exact hin
      have hiw : IntKind.i64.wrap ((i : Int) + 1) = (i : Int) + 1 := IntWalk.i64_in _ (by omega)
      obtain ⟨ba, rfl, hba, p0, p1, p2⟩ := hd_at hP_hs hil
      obtain ⟨bb, rfl, hbb, r0, r1, r2⟩ := hd_at hQ_hs hil
      obtain ⟨⟨e0, e1, e2⟩, he⟩ : ∃ x, v.hs[i] = x := ⟨_, rfl⟩
      rw [he] at p0 p1 p2 r0 r1 r2
      dsimp only at p0 p1 p2 r0 r1 r2
      clear he
      go_wp2_with fail
      clear l0 l1 l2 l3 l4 l5 l6 lf' lz m0 m1 m2 m3 m4 m5 m6 mf' mz
      obtain ⟨U, hU⟩ : ∃ U, U = wr := ⟨_, rfl⟩
      subst hU
      refine AnyG.startC (by kernel_rfl) ?_
      refine AnyG.takeP (i := 0) (v := ?_) rfl (by kernel_rfl) (fun _ _ _ h => h) rfl ?_ ?_
      rotate_left
      · (intro w'; go_simp; try with_reducible rfl)
      try simp only [Act.put, List.getElem_toArray, List.getElem_cons_succ, List.getElem_cons_zero, List.setIfInBounds_toArray, List.set_cons_zero, List.set_cons_succ]
      refine AnyG.takeP (i := 2) (v := ?_) rfl (by kernel_rfl) (fun _ _ _ h => h) rfl ?_ ?_
      rotate_left
      · (intro w'; go_simp; try with_reducible rfl)
      try simp only [Act.put, List.getElem_toArray, List.getElem_cons_succ, List.getElem_cons_zero, List.setIfInBounds_toArray, List.set_cons_zero, List.set_cons_succ]
      refine AnyG.takeP (i := 5) (v := ?_) rfl (by kernel_rfl) (fun _ _ _ h => h) rfl ?_ ?_
      rotate_left
      · (intro w'; go_simp; try with_reducible rfl)
      try simp only [Act.put, List.getElem_toArray, List.getElem_cons_succ, List.getElem_cons_zero, List.setIfInBounds_toArray, List.set_cons_zero, List.set_cons_succ]
      refine AnyG.takeP (i := 7) (v := ?_) rfl (by kernel_rfl) (fun _ _ _ h => h) rfl ?_ ?_
      rotate_left
      · (intro w'; go_simp; try with_reducible rfl)
      try simp only [Act.put, List.getElem_toArray, List.getElem_cons_succ, List.getElem_cons_zero, List.setIfInBounds_toArray, List.set_cons_zero, List.set_cons_succ]
      refine AnyG.enter (fun w' : World => Below U.heap.size U w') (fun i => i != 11) ?_
      have hS : (fun w' : World => Below U.heap.size U w') (World.drew _) := (Below.refl _ _).drew
      refine AnyG.takeC (i := 1) (v := ?_) rfl (by kernel_rfl) (fun _ _ _ h => h) rfl ?_ hS ?_
      rotate_left
      · (intro w' hSw; (try dsimp only at hSw); obtain ⟨l0, l1, l2, l3, l4, l5, l6, lf', lz⟩ := (HK1.out.call (hBV.trans (hSw.mono hBV.size))).seven; go_simp; try with_reducible rfl)
      try simp only [Act.put, List.getElem_toArray, List.getElem_cons_succ, List.getElem_cons_zero, List.setIfInBounds_toArray, List.set_cons_zero, List.set_cons_succ]
      refine AnyG.takeC (i := 3) (v := ?_) rfl (by kernel_rfl) (fun _ _ _ h => h) rfl ?_ hS ?_
      rotate_left
      · (intro w' hSw; (try dsimp only at hSw); go_simp; try with_reducible rfl)
      try simp only [Act.put, List.getElem_toArray, List.getElem_cons_succ, List.getElem_cons_zero, List.setIfInBounds_toArray, List.set_cons_zero, List.set_cons_succ]
      refine AnyG.takeC (i := 4) (v := ?_) rfl (by kernel_rfl) (fun _ _ _ h => h) rfl ?_ hS ?_
      rotate_left
      · (intro w' hSw; (try dsimp only at hSw); have p0x := cellC (hBV.trans (hSw.mono hBV.size)) p0; have p1x := cellC (hBV.trans (hSw.mono hBV.size)) p1; have p2x := cellC (hBV.trans (hSw.mono hBV.size)) p2; go_simp; try with_reducible rfl)
      try simp only [Act.put, List.getElem_toArray, List.getElem_cons_succ, List.getElem_cons_zero, List.setIfInBounds_toArray, List.set_cons_zero, List.set_cons_succ]
      refine AnyG.takeC (i := 6) (v := ?_) rfl (by kernel_rfl) (fun _ _ _ h => h) rfl ?_ hS ?_
      rotate_left
      · (intro w' hSw; (try dsimp only at hSw); obtain ⟨m0, m1, m2, m3, m4, m5, m6, mf', mz⟩ := (HK2.out.call (hBV.trans (hSw.mono hBV.size))).seven; go_simp; try with_reducible rfl)
      try simp only [Act.put, List.getElem_toArray, List.getElem_cons_succ, List.getElem_cons_zero, List.setIfInBounds_toArray, List.set_cons_zero, List.set_cons_succ]
      refine AnyG.takeC (i := 8) (v := ?_) rfl (by kernel_rfl) (fun _ _ _ h => h) rfl ?_ hS ?_
      rotate_left
      · (intro w' hSw; (try dsimp only at hSw); go_simp; try with_reducible rfl)
      try simp only [Act.put, List.getElem_toArray, List.getElem_cons_succ, List.getElem_cons_zero, List.setIfInBounds_toArray, List.set_cons_zero, List.set_cons_succ]
      refine AnyG.takeC (i := 9) (v := ?_) rfl (by kernel_rfl) (fun _ _ _ h => h) rfl ?_ hS ?_
      rotate_left
      · (intro w' hSw; (try dsimp only at hSw); have r0x := cellC (hBV.trans (hSw.mono hBV.size)) r0; have r1x := cellC (hBV.trans (hSw.mono hBV.size)) r1; have r2x := cellC (hBV.trans (hSw.mono hBV.size)) r2; go_simp; try with_reducible rfl)
      try simp only [Act.put, List.getElem_toArray, List.getElem_cons_succ, List.getElem_cons_zero, List.setIfInBounds_toArray, List.set_cons_zero, List.set_cons_succ]
      refine AnyG.takeC (i := 10) (v := ?_) rfl (by kernel_rfl) (fun _ _ _ h => h) rfl ?_ hS ?_
      rotate_left
      · (intro w' hSw; (try dsimp only at hSw); go_simp; try with_reducible rfl)
      try simp only [Act.put, List.getElem_toArray, List.getElem_cons_succ, List.getElem_cons_zero, List.setIfInBounds_toArray, List.set_cons_zero, List.set_cons_succ]
      refine AnyG.one (i := 11) (by kernel_rfl) rfl rfl ?_
      go_simp
      refine Onward.last rfl ?_
      try simp only [Act.put, List.getElem_toArray, List.getElem_cons_succ, List.getElem_cons_zero, List.setIfInBounds_toArray, List.set_cons_zero, List.set_cons_succ]
      refine AnyG.done (by kernel_rfl) ?_ _
      go_simp
      go_wp2_with fail
      go_roundw
      case rel => exact ⟨i + 1, by go_num, by omega, rfl, hBV.drew⟩
      case measure => simp [intOf]; omega
    · obtain rfl : i = hn := by omega
      go_wp2_with fail
      clear l0 l1 l2 l3 l4 l5 l6 lf' lz m0 m1 m2 m3 m4 m5 m6 mf' mz
      go_loopw [5, 7] (fun b x wr => ∃ (i : Nat), x = .int .i64 i ∧ i ≤ ln ∧ b = .bool true ∧ Below V.heap.size V wr) (fun _ x _ => ln - (intOf x).toNat)
      case atStart => exact ⟨0, rfl, by omega, rfl, hBV⟩
      case round =>
        clear hBV
        obtain ⟨i, rfl, hi, rfl, hBV⟩ := hrel
        obtain ⟨l0, l1, l2, l3, l4, l5, l6, lf', lz⟩ := (HK1.out.call hBV).seven
        obtain ⟨m0, m1, m2, m3, m4, m5, m6, mf', mz⟩ := (HK2.out.call hBV).seven
        by_cases hin : i < ln
        · have hil : i < v.ls.length := by rw [HL.out]; exact hin
          have hiw : IntKind.i64.wrap ((i : Int) + 1) = (i : Int) + 1 := IntWalk.i64_in _ (by omega)
          obtain ⟨ba, rfl, hba, p0, p1, p2⟩ := cg_at hP_ls hil
          obtain ⟨bb, rfl, hbb, r0, r1, r2⟩ := cg_at hQ_ls hil
          obtain ⟨⟨e0, e1, e2⟩, he⟩ : ∃ x, v.ls[i] = x := ⟨_, rfl⟩
          rw [he] at p0 p1 p2 r0 r1 r2
          dsimp only at p0 p1 p2 r0 r1 r2
          clear he
          go_wp2_with fail
          clear l0 l1 l2 l3 l4 l5 l6 lf' lz m0 m1 m2 m3 m4 m5 m6 mf' mz
          obtain ⟨U, hU⟩ : ∃ U, U = wr := ⟨_, rfl⟩
          subst hU
          refine AnyG.startC (by kernel_rfl) ?_
          refine AnyG.takeP (i := 0) (v := ?_) rfl (by kernel_rfl) (fun _ _ _ h => h) rfl ?_ ?_
          rotate_left
          · (intro w'; go_simp; try with_reducible rfl)
          try simp only [Act.put, List.getElem_toArray, List.getElem_cons_succ, List.getElem_cons_zero, List.setIfInBounds_toArray, List.set_cons_zero, List.set_cons_succ]
          refine AnyG.takeP (i := 2) (v := ?_) rfl (by kernel_rfl) (fun _ _ _ h => h) rfl ?_ ?_
          rotate_left
          · (intro w'; go_simp; try with_reducible rfl)
          try simp only [Act.put, List.getElem_toArray, List.getElem_cons_succ, List.getElem_cons_zero, List.setIfInBounds_toArray, List.set_cons_zero, List.set_cons_succ]
          refine AnyG.takeP (i := 5) (v := ?_) rfl (by kernel_rfl) (fun _ _ _ h => h) rfl ?_ ?_
          rotate_left
          · (intro w'; go_simp; try with_reducible rfl)
          try simp only [Act.put, List.getElem_toArray, List.getElem_cons_succ, List.getElem_cons_zero, List.setIfInBounds_toArray, List.set_cons_zero, List.set_cons_succ]
          refine AnyG.takeP (i := 7) (v := ?_) rfl (by kernel_rfl) (fun _ _ _ h => h) rfl ?_ ?_
          rotate_left
          · (intro w'; go_simp; try with_reducible rfl)
          try simp only [Act.put, List.getElem_toArray, List.getElem_cons_succ, List.getElem_cons_zero, List.setIfInBounds_toArray, List.set_cons_zero, List.set_cons_succ]
          refine AnyG.enter (fun w' : World => Below U.heap.size U w') (fun i => i != 11) ?_
          have hS : (fun w' : World => Below U.heap.size U w') (World.drew _) := (Below.refl _ _).drew
          refine AnyG.takeC (i := 1) (v := ?_) rfl (by kernel_rfl) (fun _ _ _ h => h) rfl ?_ hS ?_
          rotate_left
          · (intro w' hSw; (try dsimp only at hSw); obtain ⟨l0, l1, l2, l3, l4, l5, l6, lf', lz⟩ := (HK1.out.call (hBV.trans (hSw.mono hBV.size))).seven; go_simp; try with_reducible rfl)
          try simp only [Act.put, List.getElem_toArray, List.getElem_cons_succ, List.getElem_cons_zero, List.setIfInBounds_toArray, List.set_cons_zero, List.set_cons_succ]
          refine AnyG.takeC (i := 3) (v := ?_) rfl (by kernel_rfl) (fun _ _ _ h => h) rfl ?_ hS ?_
          rotate_left
          · (intro w' hSw; (try dsimp only at hSw); go_simp; try with_reducible rfl)
          try simp only [Act.put, List.getElem_toArray, List.getElem_cons_succ, List.getElem_cons_zero, List.setIfInBounds_toArray, List.set_cons_zero, List.set_cons_succ]
          refine AnyG.takeC (i := 4) (v := ?_) rfl (by kernel_rfl) (fun _ _ _ h => h) rfl ?_ hS ?_
          rotate_left
          · (intro w' hSw; (try dsimp only at hSw); have p0x := cellC (hBV.trans (hSw.mono hBV.size)) p0; have p1x := cellC (hBV.trans (hSw.mono hBV.size)) p1; have p2x := cellC (hBV.trans (hSw.mono hBV.size)) p2; go_simp; try with_reducible rfl)
          try simp only [Act.put, List.getElem_toArray, List.getElem_cons_succ, List.getElem_cons_zero, List.setIfInBounds_toArray, List.set_cons_zero, List.set_cons_succ]
          refine AnyG.takeC (i := 6) (v := ?_) rfl (by kernel_rfl) (fun _ _ _ h => h) rfl ?_ hS ?_
          rotate_left
          · (intro w' hSw; (try dsimp only at hSw); obtain ⟨m0, m1, m2, m3, m4, m5, m6, mf', mz⟩ := (HK2.out.call (hBV.trans (hSw.mono hBV.size))).seven; go_simp; try with_reducible rfl)
          try simp only [Act.put, List.getElem_toArray, List.getElem_cons_succ, List.getElem_cons_zero, List.setIfInBounds_toArray, List.set_cons_zero, List.set_cons_succ]
          refine AnyG.takeC (i := 8) (v := ?_) rfl (by kernel_rfl) (fun _ _ _ h => h) rfl ?_ hS ?_
          rotate_left
          · (intro w' hSw; (try dsimp only at hSw); go_simp; try with_reducible rfl)
          try simp only [Act.put, List.getElem_toArray, List.getElem_cons_succ, List.getElem_cons_zero, List.setIfInBounds_toArray, List.set_cons_zero, List.set_cons_succ]
          refine AnyG.takeC (i := 9) (v := ?_) rfl (by kernel_rfl) (fun _ _ _ h => h) rfl ?_ hS ?_
          rotate_left
          · (intro w' hSw; (try dsimp only at hSw); have r0x := cellC (hBV.trans (hSw.mono hBV.size)) r0; have r1x := cellC (hBV.trans (hSw.mono hBV.size)) r1; have r2x := cellC (hBV.trans (hSw.mono hBV.size)) r2; go_simp; try with_reducible rfl)
          try simp only [Act.put, List.getElem_toArray, List.getElem_cons_succ, List.getElem_cons_zero, List.setIfInBounds_toArray, List.set_cons_zero, List.set_cons_succ]
          refine AnyG.takeC (i := 10) (v := ?_) rfl (by kernel_rfl) (fun _ _ _ h => h) rfl ?_ hS ?_
          rotate_left
          · (intro w' hSw; (try dsimp only at hSw); go_simp; try with_reducible rfl)
          try simp only [Act.put, List.getElem_toArray, List.getElem_cons_succ, List.getElem_cons_zero, List.setIfInBounds_toArray, List.set_cons_zero, List.set_cons_succ]
          refine AnyG.one (i := 11) (by kernel_rfl) rfl rfl ?_
          go_simp
          refine Onward.last rfl ?_
          try simp only [Act.put, List.getElem_toArray, List.getElem_cons_succ, List.getElem_cons_zero, List.setIfInBounds_toArray, List.set_cons_zero, List.set_cons_succ]
          refine AnyG.done (by kernel_rfl) ?_ _
          go_simp
          go_wp2_with fail
          go_roundw
          case rel => exact ⟨i + 1, by go_num, by omega, rfl, hBV.drew⟩
          case measure => simp [intOf]; omega
        · obtain rfl : i = ln := by omega
          go_wp2_with fail
          clear l0 l1 l2 l3 l4 l5 l6 lf' lz m0 m1 m2 m3 m4 m5 m6 mf' mz
          go_loopw [5, 8, 9, 10, 11] (fun b x _ _ _ wr => ∃ (i : Nat), x = .int .i64 i ∧ i ≤ sn ∧ b = .bool true ∧ Below V.heap.size V wr) (fun _ x _ _ _ _ => sn - (intOf x).toNat)
          case atStart => exact ⟨0, rfl, by omega, rfl, hBV⟩
          case round =>
            clear hBV
            obtain ⟨i, rfl, hi, rfl, hBV⟩ := hrel
            obtain ⟨l0, l1, l2, l3, l4, l5, l6, lf', lz⟩ := (HK1.out.call hBV).seven
            obtain ⟨m0, m1, m2, m3, m4, m5, m6, mf', mz⟩ := (HK2.out.call hBV).seven
            by_cases hin : i < sn
            · have hil : i < v.ss.length := by rw [HS.out]; exact hin
              have hiw : IntKind.i64.wrap ((i : Int) + 1) = (i : Int) + 1 := IntWalk.i64_in _ (by omega)
              obtain ⟨ba, G, gc, rfl, hba, p0, p1, p2, -, hgs⟩ := hP_ss.at_ hil
              obtain ⟨ya, G2, gc2, rfl, hya, r0, r1, r2, -, hgs2⟩ := hQ_ss.at_ hil
              have hgl := HGG.out _ (List.getElem_mem hil)
              obtain ⟨⟨s0, s1, lv⟩, hbe⟩ : ∃ b, v.ss[i] = b := ⟨_, rfl⟩
              rw [hbe] at p0 p1 p2 hgs r0 r1 r2 hgs2 hgl
              dsimp only at p0 p1 p2 hgs r0 r1 r2 hgs2 hgl
              obtain ⟨gn, hgn⟩ : ∃ k, lv.length = k := ⟨_, rfl⟩
              rw [hgn] at p2 r2 hgl
              have HGL := Lib.hid hgn
              clear hbe hgn
              go_wp2_with fail
              clear l0 l1 l2 l3 l4 l5 l6 lf' lz m0 m1 m2 m3 m4 m5 m6 mf' mz
              obtain ⟨U, hU⟩ : ∃ U, U = wr := ⟨_, rfl⟩
              subst hU
              refine AnyG.startC (by kernel_rfl) ?_
              refine AnyG.takeP (i := 0) (v := ?_) rfl (by kernel_rfl) (fun _ _ _ h => h) rfl ?_ ?_
              rotate_left
              · (intro w'; go_simp; try with_reducible rfl)
              try simp only [Act.put, List.getElem_toArray, List.getElem_cons_succ, List.getElem_cons_zero, List.setIfInBounds_toArray, List.set_cons_zero, List.set_cons_succ]
              refine AnyG.takeP (i := 2) (v := ?_) rfl (by kernel_rfl) (fun _ _ _ h => h) rfl ?_ ?_
              rotate_left
              · (intro w'; go_simp; try with_reducible rfl)
              try simp only [Act.put, List.getElem_toArray, List.getElem_cons_succ, List.getElem_cons_zero, List.setIfInBounds_toArray, List.set_cons_zero, List.set_cons_succ]
              refine AnyG.takeP (i := 5) (v := ?_) rfl (by kernel_rfl) (fun _ _ _ h => h) rfl ?_ ?_
              rotate_left
              · (intro w'; go_simp; try with_reducible rfl)
              try simp only [Act.put, List.getElem_toArray, List.getElem_cons_succ, List.getElem_cons_zero, List.setIfInBounds_toArray, List.set_cons_zero, List.set_cons_succ]
              refine AnyG.takeP (i := 7) (v := ?_) rfl (by kernel_rfl) (fun _ _ _ h => h) rfl ?_ ?_
              rotate_left
              · (intro w'; go_simp; try with_reducible rfl)
              try simp only [Act.put, List.getElem_toArray, List.getElem_cons_succ, List.getElem_cons_zero, List.setIfInBounds_toArray, List.set_cons_zero, List.set_cons_succ]
              refine AnyG.enter (fun w' : World => Below U.heap.size U w') (fun i => i != 13) ?_
              have hS : (fun w' : World => Below U.heap.size U w') (U.drew) := (Below.refl _ _).drew
              try dsimp only at hS
              obtain ⟨y0, hy0⟩ : ∃ y, U.drew = y := ⟨_, rfl⟩
              rw [hy0] at hS ⊢
              clear hy0
              refine AnyG.takeC (i := 1) (v := ?_) rfl (by kernel_rfl) (fun _ _ _ h => h) rfl ?_ hS ?_
              rotate_left
              · (intro w' hSw; (try dsimp only at hSw); obtain ⟨l0, l1, l2, l3, l4, l5, l6, lf', lz⟩ := (HK1.out.call (hBV.trans (hSw.mono hBV.size))).seven; go_simp; try with_reducible rfl)
              try simp only [Act.put, List.getElem_toArray, List.getElem_cons_succ, List.getElem_cons_zero, List.setIfInBounds_toArray, List.set_cons_zero, List.set_cons_succ]
              refine AnyG.takeC (i := 3) (v := ?_) rfl (by kernel_rfl) (fun _ _ _ h => h) rfl ?_ hS ?_
              rotate_left
              · (intro w' hSw; (try dsimp only at hSw); go_simp; try with_reducible rfl)
              try simp only [Act.put, List.getElem_toArray, List.getElem_cons_succ, List.getElem_cons_zero, List.setIfInBounds_toArray, List.set_cons_zero, List.set_cons_succ]
              refine AnyG.takeC (i := 4) (v := ?_) rfl (by kernel_rfl) (fun _ _ _ h => h) rfl ?_ hS ?_
              rotate_left
              · (intro w' hSw; (try dsimp only at hSw); have p0x := cellC (hBV.trans (hSw.mono hBV.size)) p0; have p1x := cellC (hBV.trans (hSw.mono hBV.size)) p1; have p2x := cellC (hBV.trans (hSw.mono hBV.size)) p2; go_simp; try with_reducible rfl)
              try simp only [Act.put, List.getElem_toArray, List.getElem_cons_succ, List.getElem_cons_zero, List.setIfInBounds_toArray, List.set_cons_zero, List.set_cons_succ]
              refine AnyG.takeC (i := 6) (v := ?_) rfl (by kernel_rfl) (fun _ _ _ h => h) rfl ?_ hS ?_
              rotate_left
              · (intro w' hSw; (try dsimp only at hSw); obtain ⟨m0, m1, m2, m3, m4, m5, m6, mf', mz⟩ := (HK2.out.call (hBV.trans (hSw.mono hBV.size))).seven; go_simp; try with_reducible rfl)
              try simp only [Act.put, List.getElem_toArray, List.getElem_cons_succ, List.getElem_cons_zero, List.setIfInBounds_toArray, List.set_cons_zero, List.set_cons_succ]
              refine AnyG.takeC (i := 8) (v := ?_) rfl (by kernel_rfl) (fun _ _ _ h => h) rfl ?_ hS ?_
              rotate_left
              · (intro w' hSw; (try dsimp only at hSw); go_simp; try with_reducible rfl)
              try simp only [Act.put, List.getElem_toArray, List.getElem_cons_succ, List.getElem_cons_zero, List.setIfInBounds_toArray, List.set_cons_zero, List.set_cons_succ]
              refine AnyG.takeC (i := 9) (v := ?_) rfl (by kernel_rfl) (fun _ _ _ h => h) rfl ?_ hS ?_
              rotate_left
              · (intro w' hSw; (try dsimp only at hSw); have r0x := cellC (hBV.trans (hSw.mono hBV.size)) r0; have r1x := cellC (hBV.trans (hSw.mono hBV.size)) r1; have r2x := cellC (hBV.trans (hSw.mono hBV.size)) r2; go_simp; try with_reducible rfl)
              try simp only [Act.put, List.getElem_toArray, List.getElem_cons_succ, List.getElem_cons_zero, List.setIfInBounds_toArray, List.set_cons_zero, List.set_cons_succ]
              refine AnyG.all (rs := [10, 11]) (by kernel_rfl) (by simp) ?_
              intro ii hii
              simp only [List.mem_cons, List.not_mem_nil, or_false] at hii
              rcases hii with rfl | rfl
              · refine ⟨_, rfl, rfl, ?_⟩
                go_simp
                have c12 := Bx.new y0 73 #[.int .i64 0, .int .i64 0, .slice none 0 0]
                have hT := hS.alloc hS.size (.cells #[.int .i64 0, .int .i64 0, .slice none 0 0] 73)
                have hl10 := hS.size
                obtain ⟨z10, hy⟩ : ∃ x, y0.alloc (.cells #[.int .i64 0, .int .i64 0, .slice none 0 0] 73) = x := ⟨_, rfl⟩
                rw [hy] at c12 hT ⊢
                have hltc12 := c12.lt
                obtain ⟨bbc12, hbq⟩ : ∃ p, y0.heap.size = p := ⟨_, rfl⟩
                rw [hbq] at c12 hltc12 hl10 ⊢
                clear hy hbq
                have hSn := hT
                clear hS
                refine Onward.on hSn (fun hS => ?_)
                try dsimp only at hS
                clear hSn
                try simp only [Act.put, List.getElem_toArray, List.getElem_cons_succ, List.getElem_cons_zero, List.setIfInBounds_toArray, List.set_cons_zero, List.set_cons_succ]
                refine AnyG.one (i := 11) (by kernel_rfl) rfl rfl ?_
                go_simp
                have c13 := Bx.new z10 73 #[.int .i64 0, .int .i64 0, .slice none 0 0]
                replace c12 := c12.alloc (.cells #[.int .i64 0, .int .i64 0, .slice none 0 0] 73)
                have hT := hS.alloc hS.size (.cells #[.int .i64 0, .int .i64 0, .slice none 0 0] 73)
                have hl11 := hS.size
                have hne : z10.heap.size ≠ bbc12 := by have := hltc12; omega
                obtain ⟨z11, hy⟩ : ∃ x, z10.alloc (.cells #[.int .i64 0, .int .i64 0, .slice none 0 0] 73) = x := ⟨_, rfl⟩
                rw [hy] at c12 c13 hT ⊢
                have hltc13 := c13.lt
                obtain ⟨bbc13, hbq⟩ : ∃ p, z10.heap.size = p := ⟨_, rfl⟩
                rw [hbq] at c13 hltc13 hl11 hne ⊢
                clear hy hbq
                have hSn := hT
                clear hS
                refine Onward.on hSn (fun hS => ?_)
                try dsimp only at hS
                clear hSn
                try simp only [Act.put, List.getElem_toArray, List.getElem_cons_succ, List.getElem_cons_zero, List.setIfInBounds_toArray, List.set_cons_zero, List.set_cons_succ]
                refine AnyG.one (i := 12) (by kernel_rfl) rfl rfl ?_
                have hSa := hS
                obtain ⟨y0, y1, y2, yf, yz⟩ := c12.three'
                go_simp
                clear y0 y1 y2 yf yz
                have hSn := (below3 hS hl10 (.int .i64 s0) (.int .i64 s1) (.slice G gn gc))
                clear hS
                refine Onward.on hSn (fun hS => ?_)
                try dsimp only at hS
                clear hSn
                try simp only [Act.put, List.getElem_toArray, List.getElem_cons_succ, List.getElem_cons_zero, List.setIfInBounds_toArray, List.set_cons_zero, List.set_cons_succ]
                refine AnyG.one (i := 13) (by kernel_rfl) rfl rfl ?_
                have c13q := c13.far3 (b := bbc12) (by omega) (.int .i64 s0) (.int .i64 s1) (.slice G gn gc)
                obtain ⟨y0, y1, y2, yf, yz⟩ := c13q.three'
                go_simp
                clear y0 y1 y2 yf yz
                refine Onward.last rfl ?_
                try simp only [Act.put, List.getElem_toArray, List.getElem_cons_succ, List.getElem_cons_zero, List.setIfInBounds_toArray, List.set_cons_zero, List.set_cons_succ]
                refine AnyG.done (by kernel_rfl) ?_ _
                have q12 := (c12.set3 (.int .i64 s0) (.int .i64 s1) (.slice G gn gc)).far3 (b := bbc13) (by omega) (.int .i64 s0) (.int .i64 s1) (.slice G2 gn gc2)
                have q13 := (c13.far3 (b := bbc12) (by omega) (.int .i64 s0) (.int .i64 s1) (.slice G gn gc)).set3 (.int .i64 s0) (.int .i64 s1) (.slice G2 gn gc2)
                have hBz := below3 (below3 (hBV.trans (hSa.mono hBV.size)) (b := bbc12) (by have := hBV.size; omega) (.int .i64 s0) (.int .i64 s1) (.slice G gn gc)) (b := bbc13) (by have := hBV.size; omega) (.int .i64 s0) (.int .i64 s1) (.slice G2 gn gc2)
                go_simp
                obtain ⟨W9, hW9⟩ : ∃ X, ((((((z11.setCell ⟨bbc12, 0, none⟩ (.int .i64 s0)).setCell ⟨bbc12, 1, none⟩ (.int .i64 s1)).setCell ⟨bbc12, 2, none⟩ (.slice G gn gc)).setCell ⟨bbc13, 0, none⟩ (.int .i64 s0)).setCell ⟨bbc13, 1, none⟩ (.int .i64 s1)).setCell ⟨bbc13, 2, none⟩ (.slice G2 gn gc2)) = X := ⟨_, rfl⟩
                rw [hW9] at q12 q13 hBz ⊢
                clear hW9 hBV hSa c12 c13 c13q
                have hgs := hgs.call hBz
                have hgs2 := hgs2.call hBz
                obtain ⟨y0, y1, y2, yf, yz⟩ := q12.three'
                obtain ⟨d0, d1, d2, df, dz⟩ := q13.three'
                have HQ1 := Lib.hid q12
                have HQ2 := Lib.hid q13
                have HBZ := Lib.hid hBz
                clear q12 q13 hBz
                go_wp2_with fail
                clear y0 y1 y2 yf yz d0 d1 d2 df dz
                go_loopw [5, 11] (fun b x wr => ∃ (k : Nat), x = .int .i64 k ∧ k ≤ gn ∧ b = .bool true ∧ Below W9.heap.size W9 wr) (fun _ x _ => gn - (intOf x).toNat)
                case atStart => exact ⟨0, rfl, by omega, rfl, Below.refl _ _⟩
                case round =>
                  obtain ⟨k, rfl, hk, rfl, hBX⟩ := hrel
                  obtain ⟨y0, y1, y2, yf, yz⟩ := (HQ1.out.call hBX).three'
                  obtain ⟨d0, d1, d2, df, dz⟩ := (HQ2.out.call hBX).three'
                  by_cases hkn : k < gn
                  · have hkl : k < lv.length := by rw [HGL.out]; exact hkn
                    have hkw : IntKind.i64.wrap ((k : Int) + 1) = (k : Int) + 1 := IntWalk.i64_in _ (by omega)
                    obtain ⟨ga, rfl, hga, p0, p1, p2⟩ := lv_at hgs hkl
                    obtain ⟨gb, rfl, hgb, r0, r1, r2⟩ := lv_at hgs2 hkl
                    obtain ⟨⟨e0, e1, e2⟩, he⟩ : ∃ x, lv[k] = x := ⟨_, rfl⟩
                    rw [he] at p0 p1 p2 r0 r1 r2
                    dsimp only at p0 p1 p2 r0 r1 r2
                    clear he
                    go_wp2_with fail
                    clear y0 y1 y2 yf yz d0 d1 d2 df dz
                    obtain ⟨X, hX⟩ : ∃ X, X = wr := ⟨_, rfl⟩
                    subst hX
                    refine AnyG.startC (by kernel_rfl) ?_
                    refine AnyG.takeP (i := 0) (v := ?_) rfl (by kernel_rfl) (fun _ _ _ h => h) rfl ?_ ?_
                    rotate_left
                    · (intro w'; go_simp; try with_reducible rfl)
                    try simp only [Act.put, List.getElem_toArray, List.getElem_cons_succ, List.getElem_cons_zero, List.setIfInBounds_toArray, List.set_cons_zero, List.set_cons_succ]
                    refine AnyG.takeP (i := 2) (v := ?_) rfl (by kernel_rfl) (fun _ _ _ h => h) rfl ?_ ?_
                    rotate_left
                    · (intro w'; go_simp; try with_reducible rfl)
                    try simp only [Act.put, List.getElem_toArray, List.getElem_cons_succ, List.getElem_cons_zero, List.setIfInBounds_toArray, List.set_cons_zero, List.set_cons_succ]
                    refine AnyG.takeP (i := 5) (v := ?_) rfl (by kernel_rfl) (fun _ _ _ h => h) rfl ?_ ?_
                    rotate_left
                    · (intro w'; go_simp; try with_reducible rfl)
                    try simp only [Act.put, List.getElem_toArray, List.getElem_cons_succ, List.getElem_cons_zero, List.setIfInBounds_toArray, List.set_cons_zero, List.set_cons_succ]
                    refine AnyG.takeP (i := 7) (v := ?_) rfl (by kernel_rfl) (fun _ _ _ h => h) rfl ?_ ?_
                    rotate_left
                    · (intro w'; go_simp; try with_reducible rfl)
                    try simp only [Act.put, List.getElem_toArray, List.getElem_cons_succ, List.getElem_cons_zero, List.setIfInBounds_toArray, List.set_cons_zero, List.set_cons_succ]
                    refine AnyG.enter (fun w' : World => Below X.heap.size X w') (fun i => i != 11) ?_
                    have hS : (fun w' : World => Below X.heap.size X w') (World.drew _) := (Below.refl _ _).drew
                    refine AnyG.takeC (i := 1) (v := ?_) rfl (by kernel_rfl) (fun _ _ _ h => h) rfl ?_ hS ?_
                    rotate_left
                    · (intro w' hSw; (try dsimp only at hSw); obtain ⟨y0, y1, y2, yf, yz⟩ := (HQ1.out.call (hBX.trans (hSw.mono hBX.size))).three'; go_simp; try with_reducible rfl)
                    try simp only [Act.put, List.getElem_toArray, List.getElem_cons_succ, List.getElem_cons_zero, List.setIfInBounds_toArray, List.set_cons_zero, List.set_cons_succ]
                    refine AnyG.takeC (i := 3) (v := ?_) rfl (by kernel_rfl) (fun _ _ _ h => h) rfl ?_ hS ?_
                    rotate_left
                    · (intro w' hSw; (try dsimp only at hSw); go_simp; try with_reducible rfl)
                    try simp only [Act.put, List.getElem_toArray, List.getElem_cons_succ, List.getElem_cons_zero, List.setIfInBounds_toArray, List.set_cons_zero, List.set_cons_succ]
                    refine AnyG.takeC (i := 4) (v := ?_) rfl (by kernel_rfl) (fun _ _ _ h => h) rfl ?_ hS ?_
                    rotate_left
                    · (intro w' hSw; (try dsimp only at hSw); have p0x := cellC (hBX.trans (hSw.mono hBX.size)) p0; have p1x := cellC (hBX.trans (hSw.mono hBX.size)) p1; have p2x := cellC (hBX.trans (hSw.mono hBX.size)) p2; go_simp; try with_reducible rfl)
                    try simp only [Act.put, List.getElem_toArray, List.getElem_cons_succ, List.getElem_cons_zero, List.setIfInBounds_toArray, List.set_cons_zero, List.set_cons_succ]
                    refine AnyG.takeC (i := 6) (v := ?_) rfl (by kernel_rfl) (fun _ _ _ h => h) rfl ?_ hS ?_
                    rotate_left
                    · (intro w' hSw; (try dsimp only at hSw); obtain ⟨d0, d1, d2, df, dz⟩ := (HQ2.out.call (hBX.trans (hSw.mono hBX.size))).three'; go_simp; try with_reducible rfl)
                    try simp only [Act.put, List.getElem_toArray, List.getElem_cons_succ, List.getElem_cons_zero, List.setIfInBounds_toArray, List.set_cons_zero, List.set_cons_succ]
                    refine AnyG.takeC (i := 8) (v := ?_) rfl (by kernel_rfl) (fun _ _ _ h => h) rfl ?_ hS ?_
                    rotate_left
                    · (intro w' hSw; (try dsimp only at hSw); go_simp; try with_reducible rfl)
                    try simp only [Act.put, List.getElem_toArray, List.getElem_cons_succ, List.getElem_cons_zero, List.setIfInBounds_toArray, List.set_cons_zero, List.set_cons_succ]
                    refine AnyG.takeC (i := 9) (v := ?_) rfl (by kernel_rfl) (fun _ _ _ h => h) rfl ?_ hS ?_
                    rotate_left
                    · (intro w' hSw; (try dsimp only at hSw); have r0x := cellC (hBX.trans (hSw.mono hBX.size)) r0; have r1x := cellC (hBX.trans (hSw.mono hBX.size)) r1; have r2x := cellC (hBX.trans (hSw.mono hBX.size)) r2; go_simp; try with_reducible rfl)
                    try simp only [Act.put, List.getElem_toArray, List.getElem_cons_succ, List.getElem_cons_zero, List.setIfInBounds_toArray, List.set_cons_zero, List.set_cons_succ]
                    refine AnyG.takeC (i := 10) (v := ?_) rfl (by kernel_rfl) (fun _ _ _ h => h) rfl ?_ hS ?_
                    rotate_left
                    · (intro w' hSw; (try dsimp only at hSw); go_simp; try with_reducible rfl)
                    try simp only [Act.put, List.getElem_toArray, List.getElem_cons_succ, List.getElem_cons_zero, List.setIfInBounds_toArray, List.set_cons_zero, List.set_cons_succ]
                    refine AnyG.one (i := 11) (by kernel_rfl) rfl rfl ?_
                    go_simp
                    refine Onward.last rfl ?_
                    try simp only [Act.put, List.getElem_toArray, List.getElem_cons_succ, List.getElem_cons_zero, List.setIfInBounds_toArray, List.set_cons_zero, List.set_cons_succ]
                    refine AnyG.done (by kernel_rfl) ?_ _
                    go_simp
                    go_wp2_with fail
                    go_roundw
                    case rel => exact ⟨k + 1, by go_num, by omega, rfl, hBX.drew⟩
                    case measure => simp [intOf]; omega
                  · obtain rfl : k = gn := by omega
                    go_wp2_with fail
                    go_roundw
                    case rel => exact ⟨i + 1, by go_num, by omega, rfl, HBZ.out.trans (hBX.mono HBZ.out.size)⟩
                    case measure => simp [intOf]; omega
              · refine ⟨_, rfl, rfl, ?_⟩
                go_simp
                have c13 := Bx.new y0 73 #[.int .i64 0, .int .i64 0, .slice none 0 0]
                have hT := hS.alloc hS.size (.cells #[.int .i64 0, .int .i64 0, .slice none 0 0] 73)
                have hl11 := hS.size
                obtain ⟨z11, hy⟩ : ∃ x, y0.alloc (.cells #[.int .i64 0, .int .i64 0, .slice none 0 0] 73) = x := ⟨_, rfl⟩
                rw [hy] at c13 hT ⊢
                have hltc13 := c13.lt
                obtain ⟨bbc13, hbq⟩ : ∃ p, y0.heap.size = p := ⟨_, rfl⟩
                rw [hbq] at c13 hltc13 hl11 ⊢
                clear hy hbq
                have hSn := hT
                clear hS
                refine Onward.on hSn (fun hS => ?_)
                try dsimp only at hS
                clear hSn
                try simp only [Act.put, List.getElem_toArray, List.getElem_cons_succ, List.getElem_cons_zero, List.setIfInBounds_toArray, List.set_cons_zero, List.set_cons_succ]
                refine AnyG.one (i := 10) (by kernel_rfl) rfl rfl ?_
                go_simp
                have c12 := Bx.new z11 73 #[.int .i64 0, .int .i64 0, .slice none 0 0]
                replace c13 := c13.alloc (.cells #[.int .i64 0, .int .i64 0, .slice none 0 0] 73)
                have hT := hS.alloc hS.size (.cells #[.int .i64 0, .int .i64 0, .slice none 0 0] 73)
                have hl10 := hS.size
                have hne : z11.heap.size ≠ bbc13 := by have := hltc13; omega
                obtain ⟨z10, hy⟩ : ∃ x, z11.alloc (.cells #[.int .i64 0, .int .i64 0, .slice none 0 0] 73) = x := ⟨_, rfl⟩
                rw [hy] at c13 c12 hT ⊢
                have hltc12 := c12.lt
                obtain ⟨bbc12, hbq⟩ : ∃ p, z11.heap.size = p := ⟨_, rfl⟩
                rw [hbq] at c12 hltc12 hl10 hne ⊢
                clear hy hbq
                have hSn := hT
                clear hS
                refine Onward.on hSn (fun hS => ?_)
                try dsimp only at hS
                clear hSn
                try simp only [Act.put, List.getElem_toArray, List.getElem_cons_succ, List.getElem_cons_zero, List.setIfInBounds_toArray, List.set_cons_zero, List.set_cons_succ]
                refine AnyG.one (i := 12) (by kernel_rfl) rfl rfl ?_
                have hSa := hS
                obtain ⟨y0, y1, y2, yf, yz⟩ := c12.three'
                go_simp
                clear y0 y1 y2 yf yz
                have hSn := (below3 hS hl10 (.int .i64 s0) (.int .i64 s1) (.slice G gn gc))
                clear hS
                refine Onward.on hSn (fun hS => ?_)
                try dsimp only at hS
                clear hSn
                try simp only [Act.put, List.getElem_toArray, List.getElem_cons_succ, List.getElem_cons_zero, List.setIfInBounds_toArray, List.set_cons_zero, List.set_cons_succ]
                refine AnyG.one (i := 13) (by kernel_rfl) rfl rfl ?_
                have c13q := c13.far3 (b := bbc12) (by omega) (.int .i64 s0) (.int .i64 s1) (.slice G gn gc)
                obtain ⟨y0, y1, y2, yf, yz⟩ := c13q.three'
                go_simp
                clear y0 y1 y2 yf yz
                refine Onward.last rfl ?_
                try simp only [Act.put, List.getElem_toArray, List.getElem_cons_succ, List.getElem_cons_zero, List.setIfInBounds_toArray, List.set_cons_zero, List.set_cons_succ]
                refine AnyG.done (by kernel_rfl) ?_ _
                have q12 := (c12.set3 (.int .i64 s0) (.int .i64 s1) (.slice G gn gc)).far3 (b := bbc13) (by omega) (.int .i64 s0) (.int .i64 s1) (.slice G2 gn gc2)
                have q13 := (c13.far3 (b := bbc12) (by omega) (.int .i64 s0) (.int .i64 s1) (.slice G gn gc)).set3 (.int .i64 s0) (.int .i64 s1) (.slice G2 gn gc2)
                have hBz := below3 (below3 (hBV.trans (hSa.mono hBV.size)) (b := bbc12) (by have := hBV.size; omega) (.int .i64 s0) (.int .i64 s1) (.slice G gn gc)) (b := bbc13) (by have := hBV.size; omega) (.int .i64 s0) (.int .i64 s1) (.slice G2 gn gc2)
                go_simp
                obtain ⟨W9, hW9⟩ : ∃ X, ((((((z10.setCell ⟨bbc12, 0, none⟩ (.int .i64 s0)).setCell ⟨bbc12, 1, none⟩ (.int .i64 s1)).setCell ⟨bbc12, 2, none⟩ (.slice G gn gc)).setCell ⟨bbc13, 0, none⟩ (.int .i64 s0)).setCell ⟨bbc13, 1, none⟩ (.int .i64 s1)).setCell ⟨bbc13, 2, none⟩ (.slice G2 gn gc2)) = X := ⟨_, rfl⟩
                rw [hW9] at q12 q13 hBz ⊢
                clear hW9 hBV hSa c12 c13 c13q
                have hgs := hgs.call hBz
                have hgs2 := hgs2.call hBz
                obtain ⟨y0, y1, y2, yf, yz⟩ := q12.three'
                obtain ⟨d0, d1, d2, df, dz⟩ := q13.three'
                have HQ1 := Lib.hid q12
                have HQ2 := Lib.hid q13
                have HBZ := Lib.hid hBz
                clear q12 q13 hBz
                go_wp2_with fail
                clear y0 y1 y2 yf yz d0 d1 d2 df dz
                go_loopw [5, 11] (fun b x wr => ∃ (k : Nat), x = .int .i64 k ∧ k ≤ gn ∧ b = .bool true ∧ Below W9.heap.size W9 wr) (fun _ x _ => gn - (intOf x).toNat)
                case atStart => exact ⟨0, rfl, by omega, rfl, Below.refl _ _⟩
                case round =>
                  obtain ⟨k, rfl, hk, rfl, hBX⟩ := hrel
                  obtain ⟨y0, y1, y2, yf, yz⟩ := (HQ1.out.call hBX).three'
                  obtain ⟨d0, d1, d2, df, dz⟩ := (HQ2.out.call hBX).three'
                  by_cases hkn : k < gn
                  · have hkl : k < lv.length := by rw [HGL.out]; exact hkn
                    have hkw : IntKind.i64.wrap ((k : Int) + 1) = (k : Int) + 1 := IntWalk.i64_in _ (by omega)
                    obtain ⟨ga, rfl, hga, p0, p1, p2⟩ := lv_at hgs hkl
                    obtain ⟨gb, rfl, hgb, r0, r1, r2⟩ := lv_at hgs2 hkl
                    obtain ⟨⟨e0, e1, e2⟩, he⟩ : ∃ x, lv[k] = x := ⟨_, rfl⟩
                    rw [he] at p0 p1 p2 r0 r1 r2
                    dsimp only at p0 p1 p2 r0 r1 r2
                    clear he
                    go_wp2_with fail
                    clear y0 y1 y2 yf yz d0 d1 d2 df dz
                    obtain ⟨X, hX⟩ : ∃ X, X = wr := ⟨_, rfl⟩
                    subst hX
                    refine AnyG.startC (by kernel_rfl) ?_
                    refine AnyG.takeP (i := 0) (v := ?_) rfl (by kernel_rfl) (fun _ _ _ h => h) rfl ?_ ?_
                    rotate_left
                    · (intro w'; go_simp; try with_reducible rfl)
                    try simp only [Act.put, List.getElem_toArray, List.getElem_cons_succ, List.getElem_cons_zero, List.setIfInBounds_toArray, List.set_cons_zero, List.set_cons_succ]
                    refine AnyG.takeP (i := 2) (v := ?_) rfl (by kernel_rfl) (fun _ _ _ h => h) rfl ?_ ?_
                    rotate_left
                    · (intro w'; go_simp; try with_reducible rfl)
                    try simp only [Act.put, List.getElem_toArray, List.getElem_cons_succ, List.getElem_cons_zero, List.setIfInBounds_toArray, List.set_cons_zero, List.set_cons_succ]
                    refine AnyG.takeP (i := 5) (v := ?_) rfl (by kernel_rfl) (fun _ _ _ h => h) rfl ?_ ?_
                    rotate_left
                    · (intro w'; go_simp; try with_reducible rfl)
                    try simp only [Act.put, List.getElem_toArray, List.getElem_cons_succ, List.getElem_cons_zero, List.setIfInBounds_toArray, List.set_cons_zero, List.set_cons_succ]
                    refine AnyG.takeP (i := 7) (v := ?_) rfl (by kernel_rfl) (fun _ _ _ h => h) rfl ?_ ?_
                    rotate_left
                    · (intro w'; go_simp; try with_reducible rfl)
                    try simp only [Act.put, List.getElem_toArray, List.getElem_cons_succ, List.getElem_cons_zero, List.setIfInBounds_toArray, List.set_cons_zero, List.set_cons_succ]
                    refine AnyG.enter (fun w' : World => Below X.heap.size X w') (fun i => i != 11) ?_
                    have hS : (fun w' : World => Below X.heap.size X w') (World.drew _) := (Below.refl _ _).drew
                    refine AnyG.takeC (i := 1) (v := ?_) rfl (by kernel_rfl) (fun _ _ _ h => h) rfl ?_ hS ?_
                    rotate_left
                    · (intro w' hSw; (try dsimp only at hSw); obtain ⟨y0, y1, y2, yf, yz⟩ := (HQ1.out.call (hBX.trans (hSw.mono hBX.size))).three'; go_simp; try with_reducible rfl)
                    try simp only [Act.put, List.getElem_toArray, List.getElem_cons_succ, List.getElem_cons_zero, List.setIfInBounds_toArray, List.set_cons_zero, List.set_cons_succ]
                    refine AnyG.takeC (i := 3) (v := ?_) rfl (by kernel_rfl) (fun _ _ _ h => h) rfl ?_ hS ?_
                    rotate_left
                    · (intro w' hSw; (try dsimp only at hSw); go_simp; try with_reducible rfl)
                    try simp only [Act.put, List.getElem_toArray, List.getElem_cons_succ, List.getElem_cons_zero, List.setIfInBounds_toArray, List.set_cons_zero, List.set_cons_succ]
                    refine AnyG.takeC (i := 4) (v := ?_) rfl (by kernel_rfl) (fun _ _ _ h => h) rfl ?_ hS ?_
                    rotate_left
                    · (intro w' hSw; (try dsimp only at hSw); have p0x := cellC (hBX.trans (hSw.mono hBX.size)) p0; have p1x := cellC (hBX.trans (hSw.mono hBX.size)) p1; have p2x := cellC (hBX.trans (hSw.mono hBX.size)) p2; go_simp; try with_reducible rfl)
                    try simp only [Act.put, List.getElem_toArray, List.getElem_cons_succ, List.getElem_cons_zero, List.setIfInBounds_toArray, List.set_cons_zero, List.set_cons_succ]
                    refine AnyG.takeC (i := 6) (v := ?_) rfl (by kernel_rfl) (fun _ _ _ h => h) rfl ?_ hS ?_
                    rotate_left
                    · (intro w' hSw; (try dsimp only at hSw); obtain ⟨d0, d1, d2, df, dz⟩ := (HQ2.out.call (hBX.trans (hSw.mono hBX.size))).three'; go_simp; try with_reducible rfl)
                    try simp only [Act.put, List.getElem_toArray, List.getElem_cons_succ, List.getElem_cons_zero, List.setIfInBounds_toArray, List.set_cons_zero, List.set_cons_succ]
                    refine AnyG.takeC (i := 8) (v := ?_) rfl (by kernel_rfl) (fun _ _ _ h => h) rfl ?_ hS ?_
                    rotate_left
                    · (intro w' hSw; (try dsimp only at hSw); go_simp; try with_reducible rfl)
                    try simp only [Act.put, List.getElem_toArray, List.getElem_cons_succ, List.getElem_cons_zero, List.setIfInBounds_toArray, List.set_cons_zero, List.set_cons_succ]
                    refine AnyG.takeC (i := 9) (v := ?_) rfl (by kernel_rfl) (fun _ _ _ h => h) rfl ?_ hS ?_
                    rotate_left
                    · (intro w' hSw; (try dsimp only at hSw); have r0x := cellC (hBX.trans (hSw.mono hBX.size)) r0; have r1x := cellC (hBX.trans (hSw.mono hBX.size)) r1; have r2x := cellC (hBX.trans (hSw.mono hBX.size)) r2; go_simp; try with_reducible rfl)
                    try simp only [Act.put, List.getElem_toArray, List.getElem_cons_succ, List.getElem_cons_zero, List.setIfInBounds_toArray, List.set_cons_zero, List.set_cons_succ]
                    refine AnyG.takeC (i := 10) (v := ?_) rfl (by kernel_rfl) (fun _ _ _ h => h) rfl ?_ hS ?_
                    rotate_left
                    · (intro w' hSw; (try dsimp only at hSw); go_simp; try with_reducible rfl)
                    try simp only [Act.put, List.getElem_toArray, List.getElem_cons_succ, List.getElem_cons_zero, List.setIfInBounds_toArray, List.set_cons_zero, List.set_cons_succ]
                    refine AnyG.one (i := 11) (by kernel_rfl) rfl rfl ?_
                    go_simp
                    refine Onward.last rfl ?_
                    try simp only [Act.put, List.getElem_toArray, List.getElem_cons_succ, List.getElem_cons_zero, List.setIfInBounds_toArray, List.set_cons_zero, List.set_cons_succ]
                    refine AnyG.done (by kernel_rfl) ?_ _
                    go_simp
                    go_wp2_with fail
                    go_roundw
                    case rel => exact ⟨k + 1, by go_num, by omega, rfl, hBX.drew⟩
                    case measure => simp [intOf]; omega
                  · obtain rfl : k = gn := by omega
                    go_wp2_with fail
                    go_roundw
                    case rel => exact ⟨i + 1, by go_num, by omega, rfl, HBZ.out.trans (hBX.mono HBZ.out.size)⟩
                    case measure => simp [intOf]; omega
            · obtain rfl : i = sn := by omega
              go_wp2_with fail
              go_ret
              exact ⟨rfl, B0.trans (hBV.mono B0.size)⟩

end Go.Proofs.Ytfcpjkofbejleaa
