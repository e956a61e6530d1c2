/- factOf 38. -/
import Derived.Test.YtfcpjkofbejleaaFq
set_option linter.unusedSimpArgs false
set_option linter.unusedVariables false
namespace Go.Proofs.Ytfcpjkofbejleaa
open Go Go.RowKit
theorem FT.cell {g : Nat} {V x : World} {a : Addr} {u : Value} (k : FT g V x) (hf : Fd g V) (hc : V.cell? a = some u) (hu : ∀ y, u ≠ .int .u64 y) : x.cell? a = some u := k.1.cell hc (by simpa using fd_cell hf hc hu)
theorem Fd.grown2 {g q : Nat} {w x : World} (h : Fd g w) (k : w.grownBy x (some q)) (hq : q ≠ g) : Fd g x := by obtain ⟨y, h1, h2, h3⟩ := h; exact ⟨y, h1, h2, h3.grown k (by simp; omega)⟩
def FacPost (g : Nat) (v : Vg) (w : World) (e : Ending) (w' : World) : Prop :=
  (∃ (x : Tru) (TA : Option Addr) (tn tc : Nat) (WA : Option Addr) (wn wc : Nat) (DA : Option Addr) (dn dc : Nat), TruOk v x ∧ x.ts.length = tn ∧ x.ws.length = wn ∧ x.ds.length = dn ∧ e = .returned (.agg #[.slice TA tn tc, .slice WA wn wc, .slice DA dn dc]) ∧ FacAt w' w'.heap.size x TA WA DA) ∧ FT g w w'
set_option maxRecDepth 100000 in
set_option maxHeartbeats 8000000 in
theorem factOf_any (g : Nat) (v : Vg) (p : Vp) (w : World) (h : Fd g w) (ho : v.Ok) (hV0 : VoyAt w w.heap.size v p) :
    Calls Try.prog 38 #[.pointer (some ⟨g, 0, none⟩), .agg (vcs v p)] w (FacPost g v w) := by
  have hgl := h.lt
  have hln6 : p.ln ≤ 6 := by rw [← hV0.ll]; exact ho.l6
  have hsn4 : p.sn ≤ 4 := by rw [← hV0.sl]; exact ho.s4
  obtain ⟨i3, hi3, hz3, hs3, iy3⟩ := info_parts info3'
  obtain ⟨i27, hi27, hz27, hs27, iy27⟩ := info_parts info27
  have F0 : FT g w ((w.alloc (.cells (vcs v p) 26)).alloc (.cells #[.slice none 0 0, .slice none 0 0, .slice none 0 0] 62)) := ((FT.self h).alloc _).alloc _
  have k26 := (Bx.new w 26 (vcs v p)).alloc (.cells #[.slice none 0 0, .slice none 0 0, .slice none 0 0] 62)
  have k62 := Bx.at (w.alloc (.cells (vcs v p) 26)) 62 #[.slice none 0 0, .slice none 0 0, .slice none 0 0] (n := w.heap.size + 1) (by simp)
  have hVs : ((w.alloc (.cells (vcs v p) 26)).alloc (.cells #[.slice none 0 0, .slice none 0 0, .slice none 0 0] 62)).heap.size = w.heap.size + 1 + 1 := by simp
  rw [vcs_def] at F0 k26 k62 hVs ⊢
  obtain ⟨V, hVV⟩ : ∃ V, (w.alloc (.cells #[.int .i64 v.li, .int .i64 v.un, .int .i64 v.tr, .slice p.HA p.hn p.hc, .int .i64 v.le, .slice p.SA p.sn p.sc, .slice p.LA p.ln p.lc] 26)).alloc (.cells #[.slice none 0 0, .slice none 0 0, .slice none 0 0] 62) = V := ⟨_, rfl⟩
  rw [hVV] at F0 k26 k62 hVs
  have HVV := Lib.hid hVV
  have hV := F0.voy h hV0
  have hFV := F0.2
  have kb0 := Bx.at V 62 #[.slice none 0 0, .slice none 0 0, .slice none 0 0] (n := w.heap.size + 1 + 1) hVs.symm
  have FX := (FT.self hFV).alloc (.cells #[.slice none 0 0, .slice none 0 0, .slice none 0 0] 62)
  have hg26 : w.heap.size ≠ g := by omega
  have hbX : V.heap.size ≤ w.heap.size + 1 + 1 := by omega
  have hbg : w.heap.size + 1 + 1 ≠ g := by omega
  have HVL := Lib.hid hV.ll
  have HVS := Lib.hid hV.sl
  have HO := Lib.hid ho
  have HVs := Lib.hid hVs
  clear hVV hV0 hVs ho
  go_enter Try.func38, Try.ntmps38
  go_upto_region 2 with fail
  rw [HVV.out]
  obtain ⟨X, hX⟩ : ∃ X, V.alloc (.cells #[.slice none 0 0, .slice none 0 0, .slice none 0 0] 62) = X := ⟨_, rfl⟩
  rw [hX] at kb0 FX ⊢
  clear hX
  obtain ⟨bX, hbX0⟩ : ∃ q, w.heap.size + 1 + 1 = q := ⟨_, rfl⟩
  rw [hbX0] at kb0 hbX hbg ⊢
  clear hbX0
  go_wp2_with fail
  go_loopw [6] (fun iv wr => ∃ (i : Nat) (ts : List Int) (TA : Option Addr) (tc : Nat), iv = .int .i64 i ∧ i ≤ p.ln ∧ Hid (ts.length = i ∧ TsIn v.ls ts) ∧ Bx wr bX 62 #[.slice TA i tc, .slice none 0 0, .slice none 0 0] ∧ wr.ownsRow V.heap.size 3 1 (.slice TA i tc) i (inr ts).flatten ∧ FT g V wr) (fun iv _ => p.ln - (intOf iv).toNat)
  case atStart => exact ⟨0, [], none, 0, rfl, by omega, Lib.hid ⟨rfl, fun i c n h1 h2 => by simp at h2⟩, kb0, World.ownsRow_nil _ _ _ _, FX⟩
  case round =>
    clear kb0 FX
    obtain ⟨i, ts, TA, tc, rfl, hi, HTS, kb, ot, F⟩ := hrel
    by_cases hin : i < p.ln
    · have hil : i < v.ls.length := by rw [HVL.out]; exact hin
      obtain ⟨ad, hLA, _, c0, c1, _⟩ := cg_at hV.ls hil
      have hcok := HO.out.ls _ (List.getElem_mem hil)
      have hget := List.getElem?_eq_getElem hil
      generalize v.ls[i] = c at *
      have HGET := Lib.hid hget
      have kL := k26
      rw [hLA] at kL
      have kLr := F.bx kL hg26
      have hc1 := hcok.t0
      have hc2 := hcok.t01
      have hc3 := hcok.t1
      have hiw : IntKind.i64.wrap ((i : Int) + 1) = (i : Int) + 1 := IntWalk.i64_in _ (by omega)
      clear hget hLA hil hcok
      obtain ⟨l0, l1, l2, l3, l4, l5, l6, lf', lz⟩ := kLr.seven
      go_wp2_with fail
      clear l0 l1 l2 l3 l4 l5 l6 lf' lz kLr
      refine AnyG.startC (by kernel_rfl) ?_
      refine AnyG.takeP (i := 0) (v := ?_) rfl (by kernel_rfl) (fun _ _ _ h => h) rfl ?_ ?_
      rotate_left
      · (intro w'; go_simp; try with_reducible rfl)
      try simp only [Act.put, List.getElem_toArray, List.getElem_cons_succ, List.getElem_cons_zero, List.setIfInBounds_toArray, List.set_cons_zero, List.set_cons_succ]
      refine AnyG.takeP (i := 2) (v := ?_) rfl (by kernel_rfl) (fun _ _ _ h => h) rfl ?_ ?_
      rotate_left
      · (intro w'; go_simp; try with_reducible rfl)
      try simp only [Act.put, List.getElem_toArray, List.getElem_cons_succ, List.getElem_cons_zero, List.setIfInBounds_toArray, List.set_cons_zero, List.set_cons_succ]
      refine AnyG.takeP (i := 3) (v := ?_) rfl (by kernel_rfl) (fun _ _ _ h => h) rfl ?_ ?_
      rotate_left
      · (intro w'; go_simp; try with_reducible rfl)
      try simp only [Act.put, List.getElem_toArray, List.getElem_cons_succ, List.getElem_cons_zero, List.setIfInBounds_toArray, List.set_cons_zero, List.set_cons_succ]
      refine AnyG.takeP (i := 5) (v := ?_) rfl (by kernel_rfl) (fun _ _ _ h => h) rfl ?_ ?_
      rotate_left
      · (intro w'; go_simp; try with_reducible rfl)
      try simp only [Act.put, List.getElem_toArray, List.getElem_cons_succ, List.getElem_cons_zero, List.setIfInBounds_toArray, List.set_cons_zero, List.set_cons_succ]
      refine AnyG.enter (fun w' : World => Bx w' bX 62 #[.slice TA i tc, .slice none 0 0, .slice none 0 0] ∧ FT g V w') (fun i => i != 13) ?_
      have hS : (fun w' : World => Bx w' bX 62 #[.slice TA i tc, .slice none 0 0, .slice none 0 0] ∧ FT g V w') (World.drew _) := ⟨kb.drew, F.drew⟩
      refine AnyG.takeC (i := 1) (v := ?_) rfl (by kernel_rfl) (fun _ _ _ h => h) rfl ?_ hS ?_
      rotate_left
      · (intro w' hSw; (try dsimp only at hSw); obtain ⟨q0, q1, q2, qf, qz⟩ := hSw.1.three2; go_simp; try with_reducible rfl)
      try simp only [Act.put, List.getElem_toArray, List.getElem_cons_succ, List.getElem_cons_zero, List.setIfInBounds_toArray, List.set_cons_zero, List.set_cons_succ]
      refine AnyG.takeC (i := 4) (v := ?_) rfl (by kernel_rfl) (fun _ _ _ h => h) rfl ?_ hS ?_
      rotate_left
      · (intro w' hSw; (try dsimp only at hSw); obtain ⟨x0, x1, x2, x3, x4, x5, x6, xf, xz⟩ := (hSw.2.bx kL hg26).seven; go_simp; try with_reducible rfl)
      try simp only [Act.put, List.getElem_toArray, List.getElem_cons_succ, List.getElem_cons_zero, List.setIfInBounds_toArray, List.set_cons_zero, List.set_cons_succ]
      refine AnyG.takeC (i := 6) (v := ?_) rfl (by kernel_rfl) (fun _ _ _ h => h) rfl ?_ hS ?_
      rotate_left
      · (intro w' hSw; (try dsimp only at hSw); go_simp; try with_reducible rfl)
      try simp only [Act.put, List.getElem_toArray, List.getElem_cons_succ, List.getElem_cons_zero, List.setIfInBounds_toArray, List.set_cons_zero, List.set_cons_succ]
      refine AnyG.takeC (i := 7) (v := ?_) rfl (by kernel_rfl) (fun _ _ _ h => h) rfl ?_ hS ?_
      rotate_left
      · (intro w' hSw; (try dsimp only at hSw); go_simp; try with_reducible rfl)
      try simp only [Act.put, List.getElem_toArray, List.getElem_cons_succ, List.getElem_cons_zero, List.setIfInBounds_toArray, List.set_cons_zero, List.set_cons_succ]
      refine AnyG.takeC (i := 8) (v := ?_) rfl (by kernel_rfl) (fun _ _ _ h => h) rfl ?_ hS ?_
      rotate_left
      · (intro w' hSw; (try dsimp only at hSw); have z0 := hSw.2.cell hFV c0 (fun _ e => by cases e); have z1 := hSw.2.cell hFV c1 (fun _ e => by cases e); go_simp; try with_reducible rfl)
      try simp only [Act.put, List.getElem_toArray, List.getElem_cons_succ, List.getElem_cons_zero, List.setIfInBounds_toArray, List.set_cons_zero, List.set_cons_succ]
      refine AnyG.one (i := 9) (by kernel_rfl) rfl rfl ?_
      go_simp
      refine (in_any g c.t0 c.t1 _ hS.2.2 (by omega) (by omega) (by omega)).mono ?_
      rintro er y9 ⟨⟨n, rfl, n1, n2⟩, hfx, hgx⟩
      have R9 : FT g wr y9 := ⟨grownF_trans (grown_drew _ _) hgx, hfx⟩
      refine Onward.on ⟨FT.bx ⟨hgx, hfx⟩ hS.1 hbg, hS.2.call hgx hfx⟩ (fun hS2 => ?_)
      clear hS
      have hS := hS2
      clear hS2
      try simp only [Act.put, List.getElem_toArray, List.getElem_cons_succ, List.getElem_cons_zero, List.setIfInBounds_toArray, List.set_cons_zero, List.set_cons_succ]
      refine AnyG.one (i := 10) (by kernel_rfl) rfl rfl ?_
      have kn := Bx.new y9 3 #[.int .i64 n]
      go_simp
      have R10 := R9.alloc (.cells #[.int .i64 n] 3)
      have IO8 := R10.row F.2 ot (by decide)
      refine Onward.on ⟨hS.1.alloc _, hS.2.alloc _⟩ (fun hS2 => ?_)
      clear hS
      have hS := hS2
      clear hS2
      try simp only [Act.put, List.getElem_toArray, List.getElem_cons_succ, List.getElem_cons_zero, List.setIfInBounds_toArray, List.set_cons_zero, List.set_cons_succ]
      refine AnyG.one (i := 11) (by kernel_rfl) rfl rfl ?_
      refine wp_app2 (.tmp 19) (.tmp 28) 27 rfl V.heap.size 3 i3 _ 1 8 Try.underlying27 hi3 hz3 hs3 iy3 rfl (by decide) (.slice TA i tc) i (inr ts).flatten (by simp [Act.eval]) IO8 ⟨y9.heap.size, 0, none⟩ 1 1 [.int .i64 n] (by simp [Act.eval]) rfl (bx_news kn) (by simp [Value.oneCell']) (by unfold maxLen; omega) (by omega) (Nat.le_trans F.size R10.size) ?_
      intro v' w' o1 o2 o3 o4
      obtain ⟨NA, NC, rfl⟩ := own_shape o1
      refine Onward.on ⟨hS.1.grown o2 (own_bx IO8 hS.1 (by decide)), hS.2.own IO8 o2 (Nat.le_refl _) (by decide)⟩ (fun hS2 => ?_)
      clear hS
      have hS := hS2
      clear hS2
      try simp only [Act.put, List.getElem_toArray, List.getElem_cons_succ, List.getElem_cons_zero, List.setIfInBounds_toArray, List.set_cons_zero, List.set_cons_succ]
      refine AnyG.takeC (i := 12) (v := ?_) rfl (by kernel_rfl) (fun _ _ _ h => h) rfl ?_ hS ?_
      rotate_left
      · (intro w' hSw; (try dsimp only at hSw); go_simp; try with_reducible rfl)
      try simp only [Act.put, List.getElem_toArray, List.getElem_cons_succ, List.getElem_cons_zero, List.setIfInBounds_toArray, List.set_cons_zero, List.set_cons_succ]
      refine AnyG.one (i := 13) (by kernel_rfl) rfl rfl ?_
      obtain ⟨q0, q1, q2, qf, qz⟩ := hS.1.three2
      go_simp
      refine Onward.last rfl ?_
      try simp only [Act.put, List.getElem_toArray, List.getElem_cons_succ, List.getElem_cons_zero, List.setIfInBounds_toArray, List.set_cons_zero, List.set_cons_succ]
      refine AnyG.done (by kernel_rfl) ?_ _
      go_simp
      have kE := hS.1.set_ 0 (.slice NA (i + 1) NC)
      simp only [List.setIfInBounds_toArray, List.set_cons_zero, List.set_cons_succ] at kE
      have oE := own_set (q := bX) (o := 0) o1 (own_bx o1 hS.1 (by decide)) (.slice NA (i + 1) NC)
      have FE := hS.2.set_ hbX (Ne.symm hbg) 0 (.slice NA (i + 1) NC)
      clear hS
      obtain ⟨Z, hZ⟩ : ∃ Z, w'.setCell ⟨bX, 0, none⟩ (.slice NA (i + 1) NC) = Z := ⟨_, rfl⟩
      rw [hZ] at kE oE FE ⊢
      clear hZ o1 o2 o3 o4
      go_wp2_with fail
      go_roundw
      case rel => exact ⟨i + 1, ts ++ [n], NA, NC, by go_num, by omega, Lib.hid ⟨by simp [HTS.out.1], HTS.out.2.snoc (by rw [HTS.out.1]; exact HGET.out) n1 n2⟩, kE, by rw [inr_snoc]; exact oE, FE⟩
      case measure => simp [intOf]; omega
    · obtain rfl : i = p.ln := by omega
      obtain ⟨W2, rfl⟩ : ∃ W, W = wr := ⟨_, rfl⟩
      obtain ⟨tn, htn⟩ : ∃ x, p.ln = x := ⟨_, rfl⟩
      have HTN := Lib.hid htn
      have I0 : FI g bX W2.heap.size V ts [] [] (.slice TA p.ln tc) (.slice none 0 0) (.slice none 0 0) [] W2 :=
        ⟨kb, hbX, hbg, F.size, Nat.le_refl _, by rw [HTS.out.1]; exact ot, World.ownsRow_nil _ _ _ _, World.ownsRow_nil _ _ _ _, .nil _ _, by simp, fun k e => (ot.lt k e).2, F⟩
      have k26r := F.bx k26 hg26
      obtain ⟨l0, l1, l2, l3, l4, l5, l6, lf', lz⟩ := k26r.seven
      rw [htn] at I0
      clear htn hi hin
      go_wp2_with fail
      clear l0 l1 l2 l3 l4 l5 l6 lf' lz k26r
      rw [HTN.out]
      obtain ⟨B, hBB⟩ : ∃ B, W2.heap.size = B := ⟨_, rfl⟩
      rw [hBB] at I0
      clear hBB kb ot F
      go_loopw [7] (fun iv wr => ∃ (i : Nat) (ws : List Int) (ds : List (List Int)) (WA : Option Addr) (wc : Nat) (DA : Option Addr) (dc : Nat) (vs : List Value), iv = .int .i64 i ∧ i ≤ p.sn ∧ Hid (ws.length = i ∧ ds.length = i ∧ WsIn v.ss ws ∧ DsIn v.ss ds) ∧ FI g bX B V ts ws ds (.slice TA tn tc) (.slice WA i wc) (.slice DA i dc) vs wr) (fun iv _ => p.sn - (intOf iv).toNat)
      case atStart => exact ⟨0, [], [], none, 0, none, 0, [], rfl, by omega, Lib.hid ⟨rfl, rfl, fun i c n h1 h2 => by simp at h2, fun i c n h1 h2 => by simp at h2⟩, I0⟩
      case round =>
        clear I0
        obtain ⟨i, ws, ds, WA, wc, DA, dc, vs, rfl, hi, HWS, I⟩ := hrel
        obtain ⟨Y0, rfl⟩ : ∃ W, W = wr := ⟨_, rfl⟩
        have k26r := I.ft.bx k26 hg26
        by_cases hin : i < p.sn
        · have hil : i < v.ss.length := by rw [HVS.out]; exact hin
          obtain ⟨ad, G, gc, hSA, _, c0, c1, c2, hgc, hG⟩ := hV.ss.at_ hil
          have hbok := HO.out.ss _ (List.getElem_mem hil)
          have hget := List.getElem?_eq_getElem hil
          generalize v.ss[i] = b at *
          have HGET := Lib.hid hget
          obtain ⟨gn, hgn⟩ : ∃ gn, b.lv.length = gn := ⟨_, rfl⟩
          rw [hgn] at c2 hgc
          have HGN := Lib.hid hgn
          have hg6 : gn ≤ 6 := by rw [← hgn]; exact hbok.l6
          have hb1 := hbok.t0
          have hb2 := hbok.t01
          have hb3 := hbok.t1
          have HLV := Lib.hid hbok.lv
          have hiw : IntKind.i64.wrap ((i : Int) + 1) = (i : Int) + 1 := IntWalk.i64_in _ (by omega)
          have d0 := I.ft.cell hFV c0 (fun _ e => by cases e)
          have d1 := I.ft.cell hFV c1 (fun _ e => by cases e)
          have d2 := I.ft.cell hFV c2 (fun _ e => by cases e)
          obtain ⟨l0, l1, l2, l3, l4, l5, l6, lf', lz⟩ := k26r.seven
          rw [hSA] at l5
          clear hget hSA hil hbok hgn c0 c1 c2
          go_upto_region 10 with fail
          clear l0 l1 l2 l3 l4 l5 l6 lf' lz k26r d0 d1 d2
          have k8 := Bx.new Y0 73 #[.int .i64 b.t0, .int .i64 b.t1, .slice G gn gc]
          have FA := (FT.self I.ft.2).alloc (.cells #[.int .i64 b.t0, .int .i64 b.t1, .slice G gn gc] 73)
          have IA := I.go FA
          have hb8X : bX < Y0.heap.size := I.kb.lt
          have hb8g : Y0.heap.size ≠ g := by have := I.ft.2.lt; omega
          obtain ⟨b8, hb8⟩ : ∃ x, Y0.heap.size = x := ⟨_, rfl⟩
          obtain ⟨Y, hY⟩ : ∃ Y, Y0.alloc (.cells #[.int .i64 b.t0, .int .i64 b.t1, .slice G gn gc] 73) = Y := ⟨_, rfl⟩
          rw [hY] at k8 IA ⊢
          rw [hb8] at k8 hb8g hb8X ⊢
          clear hY hb8 FA I
          have hFY := IA.ft.2
          have kb := IA.kb
          have HI := Lib.hid IA
          have HWL := Lib.hid HWS.out.1
          clear IA
          refine AnyG.startC (by kernel_rfl) ?_
          refine AnyG.takeP (i := 0) (v := ?_) rfl (by kernel_rfl) (fun _ _ _ h => h) rfl ?_ ?_
          rotate_left
          · (intro w'; go_simp; try with_reducible rfl)
          try simp only [Act.put, List.getElem_toArray, List.getElem_cons_succ, List.getElem_cons_zero, List.setIfInBounds_toArray, List.set_cons_zero, List.set_cons_succ]
          refine AnyG.takeP (i := 2) (v := ?_) rfl (by kernel_rfl) (fun _ _ _ h => h) rfl ?_ ?_
          rotate_left
          · (intro w'; go_simp; try with_reducible rfl)
          try simp only [Act.put, List.getElem_toArray, List.getElem_cons_succ, List.getElem_cons_zero, List.setIfInBounds_toArray, List.set_cons_zero, List.set_cons_succ]
          refine AnyG.takeP (i := 3) (v := ?_) rfl (by kernel_rfl) (fun _ _ _ h => h) rfl ?_ ?_
          rotate_left
          · (intro w'; go_simp; try with_reducible rfl)
          try simp only [Act.put, List.getElem_toArray, List.getElem_cons_succ, List.getElem_cons_zero, List.setIfInBounds_toArray, List.set_cons_zero, List.set_cons_succ]
          refine AnyG.enter (fun w' : World => Bx w' bX 62 #[.slice TA tn tc, .slice WA i wc, .slice DA i dc] ∧ Bx w' b8 73 #[.int .i64 b.t0, .int .i64 b.t1, .slice G gn gc]) (fun i => i != 9) ?_
          have hS : (fun w' : World => Bx w' bX 62 #[.slice TA tn tc, .slice WA i wc, .slice DA i dc] ∧ Bx w' b8 73 #[.int .i64 b.t0, .int .i64 b.t1, .slice G gn gc]) (World.drew _) := ⟨kb.drew, k8.drew⟩
          refine AnyG.takeC (i := 1) (v := ?_) rfl (by kernel_rfl) (fun _ _ _ h => h) rfl ?_ hS ?_
          rotate_left
          · (intro w' hSw; (try dsimp only at hSw); obtain ⟨q0, q1, q2, qf, qz⟩ := hSw.1.three2; go_simp; try with_reducible rfl)
          try simp only [Act.put, List.getElem_toArray, List.getElem_cons_succ, List.getElem_cons_zero, List.setIfInBounds_toArray, List.set_cons_zero, List.set_cons_succ]
          refine AnyG.takeC (i := 4) (v := ?_) rfl (by kernel_rfl) (fun _ _ _ h => h) rfl ?_ hS ?_
          rotate_left
          · (intro w' hSw; (try dsimp only at hSw); obtain ⟨u0, u1, u2, uf, uz⟩ := Bx.three' hSw.2; go_simp; try with_reducible rfl)
          try simp only [Act.put, List.getElem_toArray, List.getElem_cons_succ, List.getElem_cons_zero, List.setIfInBounds_toArray, List.set_cons_zero, List.set_cons_succ]
          refine AnyG.one (i := 5) (by kernel_rfl) rfl rfl ?_
          go_simp
          refine (in_any g b.t0 b.t1 _ hFY.drew (by omega) (by omega) (by omega)).mono ?_
          rintro er y5 ⟨⟨n, rfl, n1, n2⟩, hfx, hgx⟩
          have R5 : FT g Y y5 := ⟨grownF_trans (grown_drew _ _) hgx, hfx⟩
          refine Onward.on ⟨FT.bx ⟨hgx, hfx⟩ hS.1 hbg, FT.bx ⟨hgx, hfx⟩ hS.2 hb8g⟩ (fun hS2 => ?_)
          clear hS
          have hS := hS2
          clear hS2
          try simp only [Act.put, List.getElem_toArray, List.getElem_cons_succ, List.getElem_cons_zero, List.setIfInBounds_toArray, List.set_cons_zero, List.set_cons_succ]
          refine AnyG.one (i := 6) (by kernel_rfl) rfl rfl ?_
          have kn := Bx.new y5 3 #[.int .i64 n]
          go_simp
          have R6 := R5.alloc (.cells #[.int .i64 n] 3)
          have J6 := HI.out.go R6
          have IO8 := J6.ow
          rw [HWL.out] at IO8
          refine Onward.on ⟨hS.1.alloc _, hS.2.alloc _⟩ (fun hS2 => ?_)
          clear hS
          have hS := hS2
          clear hS2
          try simp only [Act.put, List.getElem_toArray, List.getElem_cons_succ, List.getElem_cons_zero, List.setIfInBounds_toArray, List.set_cons_zero, List.set_cons_succ]
          refine AnyG.one (i := 7) (by kernel_rfl) rfl rfl ?_
          refine wp_app2 (.tmp 44) (.tmp 49) 27 rfl B 3 i3 _ 1 8 Try.underlying27 hi3 hz3 hs3 iy3 rfl (by decide) (.slice WA i wc) i (inr ws).flatten (by simp [Act.eval]) IO8 ⟨y5.heap.size, 0, none⟩ 1 1 [.int .i64 n] (by simp [Act.eval]) rfl (bx_news kn) (by simp [Value.oneCell']) (by unfold maxLen; omega) (by omega) J6.hBw ?_
          intro v' w' o1 o2 o3 o4
          obtain ⟨NA, NC, rfl⟩ := own_shape o1
          refine Onward.on ⟨hS.1.grown o2 (own_bx IO8 hS.1 (by decide)), hS.2.grown o2 (own_bx IO8 hS.2 (by decide))⟩ (fun hS2 => ?_)
          clear hS
          have hS := hS2
          clear hS2
          try simp only [Act.put, List.getElem_toArray, List.getElem_cons_succ, List.getElem_cons_zero, List.setIfInBounds_toArray, List.set_cons_zero, List.set_cons_succ]
          refine AnyG.takeC (i := 8) (v := ?_) rfl (by kernel_rfl) (fun _ _ _ h => h) rfl ?_ hS ?_
          rotate_left
          · (intro w' hSw; (try dsimp only at hSw); go_simp; try with_reducible rfl)
          try simp only [Act.put, List.getElem_toArray, List.getElem_cons_succ, List.getElem_cons_zero, List.setIfInBounds_toArray, List.set_cons_zero, List.set_cons_succ]
          refine AnyG.one (i := 9) (by kernel_rfl) rfl rfl ?_
          obtain ⟨q0, q1, q2, qf, qz⟩ := hS.1.three2
          go_simp
          refine Onward.last rfl ?_
          try simp only [Act.put, List.getElem_toArray, List.getElem_cons_succ, List.getElem_cons_zero, List.setIfInBounds_toArray, List.set_cons_zero, List.set_cons_succ]
          refine AnyG.done (by kernel_rfl) ?_ _
          go_simp
          have J := J6.way o2 (by rw [HWL.out]; exact o1) o4
          have k8E := (hS.2).far (p := ⟨bX, 1, none⟩) (by show b8 ≠ bX; omega) (.slice NA (i + 1) NC)
          clear hS
          obtain ⟨Z, hZ⟩ : ∃ Z, w'.setCell ⟨bX, 1, none⟩ (.slice NA (i + 1) NC) = Z := ⟨_, rfl⟩
          rw [hZ] at J k8E ⊢
          have hGZ := J.ft.sl hFV hG (lvr_no _)
          have hFZ := J.ft.2
          have HWI : Hid (WsIn v.ss (ws ++ [n])) := Lib.hid (HWS.out.2.2.1.snoc (by rw [HWS.out.1]; exact HGET.out) n1 n2)
          have HJ := Lib.hid J
          clear hZ o1 o2 o3 o4 J6 R5 R6 IO8 kn kb k8 hFY HI J q0 q1 q2 qf qz
          obtain ⟨u0, u1, u2, uf, uz⟩ := Bx.three' k8E
          go_wp2_with fail
          clear u0 u1 u2 uf uz
          go_loopw [9, 10] (fun rv kv wr => ∃ (k : Nat) (r : List Int) (X : Option Addr) (c : Nat), kv = .int .i64 k ∧ k ≤ gn ∧ rv = .slice X k c ∧ Hid (r.length = k ∧ RsIn b.lv r) ∧ wr.ownsRow Z.heap.size 3 1 (.slice X k c) k (inr r).flatten ∧ FT g Z wr) (fun _ kv _ => gn - (intOf kv).toNat)
          case atStart => exact ⟨0, [], none, 0, rfl, by omega, rfl, Lib.hid ⟨rfl, fun i c n h1 h2 => by simp at h2⟩, World.ownsRow_nil _ _ _ _, .self hFZ⟩
          case round =>
            obtain ⟨k, r, X, c, rfl, hk, rfl, HR, oo, F⟩ := hrel
            have k8r := F.bx k8E hb8g
            obtain ⟨u0, u1, u2, uf, uz⟩ := Bx.three' k8r
            by_cases hkn : k < gn
            · have hkl : k < b.lv.length := by rw [HGN.out]; exact hkn
              obtain ⟨e1, rfl, _, t0, t1, t2⟩ := lv_at (F.sl hFZ hGZ (lvr_no _)) hkl
              have hlok := HLV.out _ (List.getElem_mem hkl)
              have hgl2 := List.getElem?_eq_getElem hkl
              generalize b.lv[k] = l at *
              have HGL := Lib.hid hgl2
              have hl1 := hlok.d0
              have hl2 := hlok.d01
              have hl3 := hlok.d1
              have hkw : IntKind.i64.wrap ((k : Int) + 1) = (k : Int) + 1 := IntWalk.i64_in _ (by omega)
              clear hgl2 hkl hlok k8r
              go_wp2_with (first
                | (go_at_call 83; refine (in_any g l.d0 l.d1 _ F.2 (by omega) (by omega) (by omega)).mono ?_; rintro e z1 ⟨⟨m, rfl, m1, m2⟩, hfx, hgx⟩; have F1 := F.call hgx hfx; have kn := Bx.new z1 3 #[.int .i64 m]; have F2 := F1.alloc (.cells #[.int .i64 m] 3); have o8 := (own_fd oo F.2 hgx (by decide)).alloc (.cells #[.int .i64 m] 3))
                | (at_builtin; refine wpList_append_own _ rfl (.tmp 59) (.tmp 68) 27 rfl Z.heap.size 3 i3 _ 1 8 Try.underlying27 hi3 hz3 hs3 iy3 rfl (by decide) (.slice X k c) k (inr r).flatten rfl o8 ⟨z1.heap.size, 0, none⟩ 1 1 [.int .i64 m] rfl rfl (bx_news kn) (by simp [Value.oneCell']) (by unfold maxLen; omega) (by omega) F2.size ?_; intro v' w' o1 o2 o3; obtain ⟨X', x', rfl⟩ := own_shape o1)
                | fail)
              go_roundw
              case rel => exact ⟨k + 1, r ++ [m], X', x', by go_num, by omega, rfl, Lib.hid ⟨by simp [HR.out.1], HR.out.2.snoc (by rw [HR.out.1]; exact HGL.out) m1 m2⟩, by rw [inr_snoc]; exact o1, F2.own o8 o2 (Nat.le_refl _) (by decide)⟩
              case measure => simp [intOf]; omega
            · obtain rfl : k = gn := by omega
              have J1 := HJ.out.go F
              have J2 := J1.go ((FT.self J1.ft.2).alloc (.cells #[.slice X k c] 27))
              have hZw : B ≤ Z.heap.size := HJ.out.hBw
              have hwr := F.size
              have kk := J1.kb
              have HSEP : Hid ((Value.slice X k c).ownBlock = none ∨ (Value.slice X k c).ownBlock ≠ (Value.slice NA (i + 1) NC).ownBlock) := Lib.hid (by
                cases e : (Value.slice X k c).ownBlock with
                | none => exact .inl rfl
                | some q =>
                  refine .inr fun e2 => ?_
                  have h1 := (oo.lt q e).1
                  have h2 := (HJ.out.ow.lt q e2.symm).2
                  omega)
              have o8 := own_down (oo.alloc (.cells #[.slice X k c] 27)) hZw
              have HDL := Lib.hid HWS.out.2.1
              have OD := J2.od
              rw [HDL.out] at OD
              have kn := Bx.new wr 27 #[.slice X k c]
              have hw2 := J2.hBw
              have KB2 := J2.kb
              have HJ2 := Lib.hid J2
              have HJ1 := Lib.hid J1
              obtain ⟨q0, q1, q2, qf, qz⟩ := kk.three2
              clear J1 J2 kk k8r oo F
              go_wp2_with (first
                | (at_builtin; refine wpList_append_own _ rfl (.tmp 71) (.tmp 73) 38 rfl B 27 i27 _ 1 24 Try.underlying38 hi27 hz27 hs27 iy27 rfl (by decide) (.slice DA i dc) i vs rfl OD ⟨wr.heap.size, 0, none⟩ 1 1 [.slice X k c] rfl rfl (bx_news kn) (by simp [Value.oneCell']) (by unfold maxLen; omega) (by omega) hw2 ?_; intro v' w' o1 o2 o3; obtain ⟨X', x', rfl⟩ := own_shape o1; have k9 := KB2.grown o2 (own_bx OD KB2 (by decide)); clear q0 q1 q2 qf qz; obtain ⟨q0, q1, q2, qf, qz⟩ := k9.three2)
                | fail)
              have JF := HJ2.out.row o2 (by rw [HDL.out]; exact o1) o8 HR.out.1 HSEP.out
              go_roundw
              case rel => exact ⟨i + 1, ws ++ [n], ds ++ [r], NA, NC, X', x', vs ++ [.slice X k c], by go_num, by omega, Lib.hid ⟨by simp [HWS.out.1], by simp [HWS.out.2.1], HWI.out, HWS.out.2.2.2.snoc (by rw [HWS.out.2.1]; exact HGET.out) (by rw [HR.out.1, HGN.out]) HR.out.2⟩, JF⟩
              case measure => simp [intOf]; omega
        · obtain rfl : i = p.sn := by omega
          have hb4 : w.heap.size + 1 ≠ g := by omega
          have k4 := I.ft.bx k62 hb4
          have kX := I.kb
          have HI := Lib.hid I
          have hwV : w.heap.size + 1 + 1 = V.heap.size := HVs.out.symm
          obtain ⟨l0, l1, l2, l3, l4, l5, l6, lf', lz⟩ := k26r.seven
          obtain ⟨q0, q1, q2, qf, qz⟩ := kX.three2
          obtain ⟨r0, r1, r2, rf, rz⟩ := k4.three2
          clear hi hin I kX k26r hwV
          go_wp2_with fail
          have fA := ((k4.set_ 0 (.slice TA tn tc)).set_ 1 (.slice WA p.sn wc)).set_ 2 (.slice DA p.sn dc)
          simp only [List.setIfInBounds_toArray, List.set_cons_zero, List.set_cons_succ] at fA
          have fG : Y0.grownBy _ (some (w.heap.size + 1)) := grownF_trans (grownF_trans (grown_set Y0 (w.heap.size + 1) 0 (.slice TA tn tc)) (grown_set _ (w.heap.size + 1) 1 (.slice WA p.sn wc))) (grown_set _ (w.heap.size + 1) 2 (.slice DA p.sn dc))
          obtain ⟨Z, hZ⟩ : ∃ Z, ((Y0.setCell ⟨w.heap.size + 1, 0, none⟩ (.slice TA tn tc)).setCell ⟨w.heap.size + 1, 1, none⟩ (.slice WA p.sn wc)).setCell ⟨w.heap.size + 1, 2, none⟩ (.slice DA p.sn dc) = Z := ⟨_, rfl⟩
          rw [hZ] at fA fG ⊢
          clear hZ
          obtain ⟨s0, s1, s2, sf, sz⟩ := fA.three2
          have hTL := HTS.out.1
          have hFac := HI.out.fin (TA := TA) (WA := WA) (DA := DA) rfl rfl rfl (by rw [hTL]; exact HTN.out) HWS.out.1 HWS.out.2.1 k4 rfl fG
          have hFT : FT g w Z := ⟨gr_own (grownF_trans F0.1 HI.out.ft.1) fG (fun k e => by cases e; omega), (HI.out.ft.2).grown2 fG (by omega)⟩
          have hTru : TruOk v ⟨ts, ws, ds⟩ := ⟨by dsimp only; rw [hTL, HVL.out], HTS.out.2, by dsimp only; rw [HWS.out.1, HVS.out], HWS.out.2.2.1, by dsimp only; rw [HWS.out.2.1, HVS.out], fun i s r h1 h2 => HWS.out.2.2.2 i s r h1 h2⟩
          exact bodyPost_ret (v := .agg #[.slice TA tn tc, .slice WA p.sn wc, .slice DA p.sn dc]) (by simp [results, Try.results38, go_sem, s0, s1, s2]) rfl ⟨⟨⟨ts, ws, ds⟩, TA, tn, tc, WA, p.sn, wc, DA, p.sn, dc, hTru, by dsimp only; rw [hTL]; exact HTN.out, HWS.out.1, HWS.out.2.1, rfl, hFac⟩, hFT⟩
end Go.Proofs.Ytfcpjkofbejleaa
