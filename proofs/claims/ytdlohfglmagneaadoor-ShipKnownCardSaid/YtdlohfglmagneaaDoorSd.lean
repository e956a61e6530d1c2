/- sail. -/
import Derived.Test.YtdlohfglmagneaaDoorSbM
set_option linter.unusedSimpArgs false
set_option linter.unusedVariables false
namespace Go.Proofs.YtdlohfglmagneaaDoor
open Go Go.RowKit
theorem sal_drop {nd : Int} {ss : List Si} {g : Bool} {i : Nat} {a : Int} (hi : i < ss.length) : sal (slM nd (ss.drop i) g) a = match ovr (fun m => decide (nd ≤ 1000 * dpt (lvL ss[i].lv g) m)) (a + way ss[i] g) with
    | none => []
    | some m => m :: sal (slM nd (ss.drop (i + 1)) g) m := by
  rw [List.drop_eq_getElem_cons hi]
  rfl
/-- The first moment at which the water is deep enough. -/
theorem mom_find {s : Si} (hs : s.Ok) (g : Bool) (nd c : Int) : (momL s.lv c).find? (fun m => decide (nd ≤ 1000 * dpt (lvL s.lv g) m)) = ovr (fun m => decide (nd ≤ 1000 * dpt (lvL s.lv g) m)) c := by
  rw [← mts_momL s.lv g]
  exact mts_ovr (f := fun d => decide (nd ≤ 1000 * d)) (by unfold Asc lvL; rw [List.pairwise_map]; exact hs.asc) (by
    intro x hx
    unfold lvL at hx
    obtain ⟨l, hl, rfl⟩ := List.mem_map.1 hx
    exact (hs.lv l hl).fr.2) c
theorem find_here {α : Type} {f : α → Bool} {L : List α} {j : Nat} {x : α} (hx : L[j]? = some x) (hf : f x = true) (hn : ∀ k, k < j → ∀ y, L[k]? = some y → f y = false) : L.find? f = some x := by
  obtain ⟨hj, e⟩ := List.getElem?_eq_some_iff.1 hx
  rw [List.find?_eq_some_iff_getElem]
  refine ⟨hf, j, hj, e, fun k hk => ?_⟩
  rw [hn k hk L[k] (List.getElem?_eq_getElem (by omega))]
  rfl
theorem find_no {α : Type} {f : α → Bool} {L : List α} (hn : ∀ (k : Nat) (y : α), L[k]? = some y → f y = false) : L.find? f = none := by
  rw [List.find?_eq_none]
  intro x hx
  obtain ⟨k, hk⟩ := List.getElem?_of_mem hx
  rw [hn k x hk]
  simp
theorem mom_len {L : List Lv} {c : Int} (h : L.length ≤ 6) : (momL L c).length ≤ 7 := by
  unfold momL
  split
  · simp
  · simp only [List.length_cons, List.length_map]
    have := List.length_filter_le (fun l : Lv => decide (c < l.fr)) L
    omega
theorem dpt_bd {L : List Lv} (h : ∀ l ∈ L, l.Ok) (g : Bool) (m : Int) : 0 ≤ dpt (lvL L g) m ∧ dpt (lvL L g) m ≤ 10000 := by
  unfold dpt lvL
  suffices ∀ d : Int, 0 ≤ d ∧ d ≤ 10000 → 0 ≤ (L.map fun l : Lv => (l.fr, if g = true then l.d1 else l.d0)).foldl (fun (d : Int) (x : Int × Int) => if x.1 ≤ m then x.2 else d) d ∧ (L.map fun l : Lv => (l.fr, if g = true then l.d1 else l.d0)).foldl (fun (d : Int) (x : Int × Int) => if x.1 ≤ m then x.2 else d) d ≤ 10000 from this 0 (by omega)
  induction L with
  | nil => intro d hd; exact hd
  | cons l L ih =>
    intro d hd
    simp only [List.map_cons, List.foldl_cons]
    refine ih (fun y hy => h y (by simp [hy])) _ ?_
    have o := h l (by simp)
    have := o.d0; have := o.d01; have := o.d1
    split
    · split <;> omega
    · exact hd
set_option maxRecDepth 100000 in
set_option maxHeartbeats 4000000 in
theorem sail_any (v : Vg) (p : Vp) (g : Bool) (d0 d1 : Int) (w : World) (ho : v.Ok) (hV : VoyAt w w.heap.size v p) (h0 : 0 ≤ d0 ∧ d0 ≤ 305000000) (h1 : 0 ≤ d1 ∧ d1 ≤ 305000000) :
    Calls Tryd.prog 25 #[.agg (bcs v p g d0 d1)] w fun e w' => (∃ X x, e = .returned (.slice X (sal (slM (max d0 d1 + 1000 * v.un) v.ss g) v.le).length x) ∧ w'.ownsRow w.heap.size 3 1 (.slice X (sal (slM (max d0 d1 + 1000 * v.un) v.ss g) v.le).length x) (sal (slM (max d0 d1 + 1000 * v.un) v.ss g) v.le).length (inr (sal (slM (max d0 d1 + 1000 * v.un) v.ss g) v.le)).flatten) ∧ Below w.heap.size w w' := by
  have k0 := Bx.new w 71 (bcs v p g d0 d1)
  have B0 := (Below.refl w.heap.size w).alloc (Nat.le_refl _) (.cells (bcs v p g d0 d1) 71)
  have hun := ho.un
  have hle := ho.le
  have hs4 := ho.s4
  have hsn4 : p.sn ≤ 4 := by rw [← hV.sl]; exact hs4
  obtain ⟨nd, hnd⟩ : ∃ x, max d0 d1 + 1000 * v.un = x := ⟨_, rfl⟩
  have HND := Lib.hid hnd
  rw [hnd]
  have hndb : 0 ≤ nd ∧ nd ≤ 320000000 := by rw [← hnd]; omega
  obtain ⟨RR, hRR⟩ : ∃ x, sal (slM nd v.ss g) v.le = x := ⟨_, rfl⟩
  rw [hRR]
  obtain ⟨i3, hi3, hz3, hs3, iy3⟩ := info_parts info3'
  rw [bcs_def] at k0 B0 ⊢
  obtain ⟨c0, c1, c2, c3, c4, c5, c6, c7, c8, c9, cf, cz⟩ := k0.ten
  have HSL := Lib.hid hV.sl
  clear hnd
  go_enter Tryd.func25, Tryd.ntmps25
  go_wp2_with fail
  go_step3
  go_wp2_with fail
  go_step3
  go_wp2_with fail
  go_loopw [3, 4, 17] (fun pv av iv wr => ∃ (i : Nat) (P : List Int) (a : Int) (q x : Nat) (X : Option Addr), iv = .int .i64 i ∧ i ≤ p.sn ∧ pv = .slice X q x ∧ av = .int .i64 a ∧ 0 ≤ a ∧ a ≤ 2880 ∧ q = i ∧ Hid (P.length = q ∧ RR = P ++ sal (slM nd (v.ss.drop i) g) a) ∧ wr.ownsRow w.heap.size 3 1 (.slice X q x) q (inr P).flatten ∧ Bx wr w.heap.size 71 #[.int .i64 v.li, .int .i64 v.un, .int .i64 v.tr, .slice p.HA p.hn p.hc, .int .i64 v.le, .slice p.SA p.sn p.sc, .slice p.LA p.ln p.lc, .bool g, .int .i64 d0, .int .i64 d1] ∧ Below w.heap.size w wr) (fun _ _ iv _ => p.sn - (intOf iv).toNat)
  case atStart => exact ⟨0, [], v.le, 0, 0, none, rfl, by omega, rfl, rfl, hle.1, hle.2, rfl, Lib.hid ⟨rfl, by rw [List.nil_append]; exact hRR.symm⟩, World.ownsRow_nil _ _ _ _, k0, B0⟩
  case round =>
    clear k0 B0 c0 c1 c2 c3 c4 c5 c6 c7 c8 c9 cf cz hRR
    obtain ⟨i, P, a, q, x, X, rfl, hi, rfl, rfl, ha0, ha1, rfl, hP, OO, kb, hB⟩ := hrel
    by_cases hin : q < p.sn
    · have hie : q < v.ss.length := by rw [HSL.out]; exact hin
      obtain ⟨ad, G, gc, hSA, hadb, z0, z1, z2, hgc, hG⟩ := (hV.ss.below hB).at_ hie
      have hds := sal_drop (nd := nd) (g := g) (a := a) hie
      have hsok := ho.ss _ (List.getElem_mem hie)
      generalize v.ss[q] = b at *
      obtain ⟨gn, hgn⟩ : ∃ gn, b.lv.length = gn := ⟨_, rfl⟩
      rw [hgn] at z2 hgc
      have HGN := Lib.hid hgn
      have hg6 : gn ≤ 6 := by rw [← hgn]; exact hsok.l6
      obtain ⟨wy, hwy⟩ : ∃ x, way b g = x := ⟨_, rfl⟩
      rw [hwy] at hds
      have HWY : Hid ((if g = true then b.t0 else b.t1) = wy) := Lib.hid hwy
      have hwb : 0 ≤ wy ∧ wy ≤ 2880 := by
        have := hsok.t0; have := hsok.t01; have := hsok.t1
        rw [← hwy]; unfold way; split <;> omega
      have hfind := mom_find hsok g nd (a + wy)
      have hml := mom_len (L := b.lv) (c := a + wy) hsok.l6
      have hdb := dpt_bd (L := b.lv) hsok.lv g
      obtain ⟨ML, hML⟩ : ∃ x, momL b.lv (a + wy) = x := ⟨_, rfl⟩
      rw [hML] at hfind hml
      rw [← hfind] at hds
      have HML := Lib.hid hML
      have HDS := Lib.hid hds
      have HFI := Lib.hid hfind
      have HDB := Lib.hid hdb
      have waw : IntKind.i64.wrap (a + wy) = a + wy := IntWalk.i64_in _ (by omega)
      obtain ⟨c0, c1, c2, c3, c4, c5, c6, c7, c8, c9, cf, cz⟩ := kb.ten
      rw [hSA] at c5
      clear hds hfind hwy hgn hML hdb
      go_wp2_with fail
      obtain ⟨b6, hb6⟩ : ∃ x, wr.heap.size = x := ⟨_, rfl⟩
      have k6 := Bx.at wr 35 #[.int .i64 b.t0, .int .i64 b.t1, .slice G gn gc] hb6.symm
      have kb1 := kb.alloc (.cells #[.int .i64 b.t0, .int .i64 b.t1, .slice G gn gc] 35)
      have hBa := (Below.refl wr.heap.size wr).alloc (Nat.le_refl _) (.cells #[.int .i64 b.t0, .int .i64 b.t1, .slice G gn gc] 35)
      have OU := own_bel OO hBa
      have hGU0 := (hG.more hB.size).call hBa
      have hBU := hB.trans (hBa.mono hB.size)
      obtain ⟨U, hU⟩ : ∃ X, wr.alloc (.cells #[.int .i64 b.t0, .int .i64 b.t1, .slice G gn gc] 35) = X := ⟨_, rfl⟩
      rw [hU] at k6 kb1 OU hGU0 hBU
      rw [hU, hb6]
      have hGU := hGU0
      clear hSA hU hb6 hBa c0 c1 c2 c3 c4 c5 c6 c7 c8 c9 cf cz OO kb hB hG hGU0
      refine AnyG.startC (by kernel_rfl) ?_
      refine AnyG.takeP (i := 1) (v := ?_) rfl (by kernel_rfl) (fun _ _ _ h => h) rfl ?_ ?_
      rotate_left
      · (intro w'; go_simp; try with_reducible rfl)
      try simp only [Act.put, List.getElem_toArray, List.getElem_cons_succ, List.getElem_cons_zero, List.setIfInBounds_toArray, List.set_cons_zero, List.set_cons_succ]
      refine AnyG.takeP (i := 2) (v := ?_) rfl (by kernel_rfl) (fun _ _ _ h => h) rfl ?_ ?_
      rotate_left
      · (intro w'; go_simp; try with_reducible rfl)
      try simp only [Act.put, List.getElem_toArray, List.getElem_cons_succ, List.getElem_cons_zero, List.setIfInBounds_toArray, List.set_cons_zero, List.set_cons_succ]
      refine AnyG.takeP (i := 4) (v := ?_) rfl (by kernel_rfl) (fun _ _ _ h => h) rfl ?_ ?_
      rotate_left
      · (intro w'; go_simp; try with_reducible rfl)
      try simp only [Act.put, List.getElem_toArray, List.getElem_cons_succ, List.getElem_cons_zero, List.setIfInBounds_toArray, List.set_cons_zero, List.set_cons_succ]
      refine AnyG.takeP (i := 10) (v := ?_) rfl (by kernel_rfl) (fun _ _ _ h => h) rfl ?_ ?_
      rotate_left
      · (intro w'; go_simp; try with_reducible rfl)
      try simp only [Act.put, List.getElem_toArray, List.getElem_cons_succ, List.getElem_cons_zero, List.setIfInBounds_toArray, List.set_cons_zero, List.set_cons_succ]
      refine AnyG.enter (fun w' : World => Bx w' w.heap.size 71 #[.int .i64 v.li, .int .i64 v.un, .int .i64 v.tr, .slice p.HA p.hn p.hc, .int .i64 v.le, .slice p.SA p.sn p.sc, .slice p.LA p.ln p.lc, .bool g, .int .i64 d0, .int .i64 d1] ∧ Bx w' b6 35 #[.int .i64 b.t0, .int .i64 b.t1, .slice G gn gc] ∧ Below U.heap.size U w') (fun i => true) ?_
      have hS : (fun w' : World => Bx w' w.heap.size 71 #[.int .i64 v.li, .int .i64 v.un, .int .i64 v.tr, .slice p.HA p.hn p.hc, .int .i64 v.le, .slice p.SA p.sn p.sc, .slice p.LA p.ln p.lc, .bool g, .int .i64 d0, .int .i64 d1] ∧ Bx w' b6 35 #[.int .i64 b.t0, .int .i64 b.t1, .slice G gn gc] ∧ Below U.heap.size U w') (World.drew _) := ⟨kb1.drew, k6.drew, (Below.refl _ _).drew⟩
      refine AnyG.takeC (i := 0) (v := ?_) rfl (by kernel_rfl) (fun _ _ _ h => h) rfl ?_ hS ?_
      rotate_left
      · (intro w' hSw; (try dsimp only at hSw); obtain ⟨y0, y1, y2, yf, yz⟩ := Bx.three' hSw.2.1; go_simp; try with_reducible rfl)
      try simp only [Act.put, List.getElem_toArray, List.getElem_cons_succ, List.getElem_cons_zero, List.setIfInBounds_toArray, List.set_cons_zero, List.set_cons_succ]
      refine AnyG.takeC (i := 3) (v := ?_) rfl (by kernel_rfl) (fun _ _ _ h => h) rfl ?_ hS ?_
      rotate_left
      · (intro w' hSw; (try dsimp only at hSw); obtain ⟨x0, x1, x2, x3, x4, x5, x6, x7, x8, x9, xf, xz⟩ := hSw.1.ten; go_simp; try with_reducible rfl)
      try simp only [Act.put, List.getElem_toArray, List.getElem_cons_succ, List.getElem_cons_zero, List.setIfInBounds_toArray, List.set_cons_zero, List.set_cons_succ]
      refine AnyG.takeC (i := 5) (v := ?_) rfl (by kernel_rfl) (fun _ _ _ h => h) rfl ?_ hS ?_
      rotate_left
      · (intro w' hSw; (try dsimp only at hSw); obtain ⟨y0, y1, y2, yf, yz⟩ := Bx.three' hSw.2.1; go_simp; try with_reducible rfl)
      try simp only [Act.put, List.getElem_toArray, List.getElem_cons_succ, List.getElem_cons_zero, List.setIfInBounds_toArray, List.set_cons_zero, List.set_cons_succ]
      refine AnyG.one (i := 6) (by kernel_rfl) rfl rfl ?_
      go_simp
      refine (hinders_any g b.t0 b.t1 _).mono ?_
      rintro e6 y6 ⟨rfl, hb6⟩
      rw [HWY.out]
      refine Onward.on ⟨hS.1.call hb6, hS.2.1.call hb6, hS.2.2.trans (hb6.mono hS.2.2.size)⟩ (fun hS2 => ?_)
      clear hS
      have hS := hS2
      clear hS2
      try simp only [Act.put, List.getElem_toArray, List.getElem_cons_succ, List.getElem_cons_zero, List.setIfInBounds_toArray, List.set_cons_zero, List.set_cons_succ]
      refine AnyG.takeC (i := 7) (v := ?_) rfl (by kernel_rfl) (fun _ _ _ h => h) rfl ?_ hS ?_
      rotate_left
      · (intro w' hSw; (try dsimp only at hSw); go_simp; try with_reducible rfl)
      try simp only [Act.put, List.getElem_toArray, List.getElem_cons_succ, List.getElem_cons_zero, List.setIfInBounds_toArray, List.set_cons_zero, List.set_cons_succ]
      refine AnyG.one (i := 8) (by kernel_rfl) rfl rfl ?_
      go_simp
      refine (moments_any b.t0 b.t1 G gn gc b.lv (a + wy) _ (by omega) HGN.out (hGU.call hS.2.2)).mono ?_
      rintro e8 y8 ⟨⟨MX, mx, rfl, hMX⟩, hb8⟩
      rw [HML.out]
      rw [HML.out] at hMX
      refine Onward.on ⟨hS.1.call hb8, hS.2.1.call hb8, hS.2.2.trans (hb8.mono hS.2.2.size)⟩ (fun hS2 => ?_)
      clear hS
      have hS := hS2
      clear hS2
      try simp only [Act.put, List.getElem_toArray, List.getElem_cons_succ, List.getElem_cons_zero, List.setIfInBounds_toArray, List.set_cons_zero, List.set_cons_succ]
      refine AnyG.takeC (i := 9) (v := ?_) rfl (by kernel_rfl) (fun _ _ _ h => h) rfl ?_ hS ?_
      rotate_left
      · (intro w' hSw; (try dsimp only at hSw); go_simp; try with_reducible rfl)
      try simp only [Act.put, List.getElem_toArray, List.getElem_cons_succ, List.getElem_cons_zero, List.setIfInBounds_toArray, List.set_cons_zero, List.set_cons_succ]
      refine AnyG.done (by kernel_rfl) ?_ _
      go_wp2_with fail
      obtain ⟨Y, hY⟩ : ∃ X, y8 = X := ⟨_, rfl⟩
      rw [hY] at hMX hS
      rw [hY]
      have kY := hS.1
      have hUY : Below U.heap.size U Y := hS.2.2
      have OY := own_bel OU hUY
      have hGY := hGU.call hUY
      have hBY := hBU.trans (hUY.mono hBU.size)
      obtain ⟨mn, hmn⟩ : ∃ x, ML.length = x := ⟨_, rfl⟩
      rw [hmn] at hml ⊢
      have HMN := Lib.hid hmn
      clear hS hY hmn hb8 OU hGU hBU hUY k6 kb1
      go_loopw [3, 4, 37] (fun pv av jv wr => ∃ j : Nat, jv = .int .i64 j ∧ j ≤ mn ∧ pv = .slice X q x ∧ av = .int .i64 a ∧ Hid (∀ k, k < j → ∀ y, ML[k]? = some y → decide (nd ≤ 1000 * dpt (lvL b.lv g) y) = false) ∧ Below Y.heap.size Y wr) (fun _ _ jv _ => mn - (intOf jv).toNat)
      case atStart => exact ⟨0, rfl, by omega, rfl, rfl, Lib.hid (fun k hk => by omega), Below.refl _ _⟩
      case round =>
        obtain ⟨j, rfl, hj, rfl, rfl, hno, hYr⟩ := hrel
        have hYs := hBY.size
        by_cases hjm : j < mn
        · have hje : j < ML.length := by rw [HMN.out]; exact hjm
          obtain ⟨md, hMXe, _, m0⟩ := inr_at (hMX.call hYr) hje
          have hget := List.getElem?_eq_getElem hje
          obtain ⟨mm, hmm⟩ : ∃ x, ML[j] = x := ⟨_, rfl⟩
          rw [hmm] at m0 hget
          have HGT := Lib.hid hget
          obtain ⟨DD, hDD⟩ : ∃ x, dpt (lvL b.lv g) mm = x := ⟨_, rfl⟩
          have HDD := Lib.hid hDD
          have hDb : 0 ≤ DD ∧ DD ≤ 10000 := by rw [← hDD]; exact HDB.out mm
          have wD : IntKind.i64.wrap (1000 * DD) = 1000 * DD := IntWalk.i64_in _ (by omega)
          have hjw : IntKind.i64.wrap ((j : Int) + 1) = (j : Int) + 1 := IntWalk.i64_in _ (by omega)
          have kr := kY.call hYr
          have hGr := hGY.call hYr
          clear hget hmm hDD
          subst hMXe
          by_cases hdeep : nd ≤ 1000 * DD
          · have hdd : decide (nd ≤ 1000 * DD) = true := by simpa using hdeep
            go_wp2_with fail
            refine AnyG.startC (by kernel_rfl) ?_
            refine AnyG.takeP (i := 0) (v := ?_) rfl (by kernel_rfl) (fun _ _ _ h => h) rfl ?_ ?_
            rotate_left
            · (intro w'; go_simp; try with_reducible rfl)
            try simp only [Act.put, List.getElem_toArray, List.getElem_cons_succ, List.getElem_cons_zero, List.setIfInBounds_toArray, List.set_cons_zero, List.set_cons_succ]
            refine AnyG.takeP (i := 1) (v := ?_) rfl (by kernel_rfl) (fun _ _ _ h => h) rfl ?_ ?_
            rotate_left
            · (intro w'; go_simp; try with_reducible rfl)
            try simp only [Act.put, List.getElem_toArray, List.getElem_cons_succ, List.getElem_cons_zero, List.setIfInBounds_toArray, List.set_cons_zero, List.set_cons_succ]
            refine AnyG.enter (fun w' : World => Bx w' w.heap.size 71 #[.int .i64 v.li, .int .i64 v.un, .int .i64 v.tr, .slice p.HA p.hn p.hc, .int .i64 v.le, .slice p.SA p.sn p.sc, .slice p.LA p.ln p.lc, .bool g, .int .i64 d0, .int .i64 d1] ∧ Below wr.heap.size wr w') (fun i => true) ?_
            have hS : (fun w' : World => Bx w' w.heap.size 71 #[.int .i64 v.li, .int .i64 v.un, .int .i64 v.tr, .slice p.HA p.hn p.hc, .int .i64 v.le, .slice p.SA p.sn p.sc, .slice p.LA p.ln p.lc, .bool g, .int .i64 d0, .int .i64 d1] ∧ Below wr.heap.size wr w') (World.drew _) := ⟨kr.drew, (Below.refl _ _).drew⟩
            refine AnyG.takeC (i := 4) (v := ?_) rfl (by kernel_rfl) (fun _ _ _ h => h) rfl ?_ hS ?_
            rotate_left
            · (intro w' hSw; (try dsimp only at hSw); obtain ⟨x0, x1, x2, x3, x4, x5, x6, x7, x8, x9, xf, xz⟩ := hSw.1.ten; go_simp; try with_reducible rfl)
            try simp only [Act.put, List.getElem_toArray, List.getElem_cons_succ, List.getElem_cons_zero, List.setIfInBounds_toArray, List.set_cons_zero, List.set_cons_succ]
            refine AnyG.one (i := 2) (by kernel_rfl) rfl rfl ?_
            go_simp
            refine (depth_any g G gn gc b.lv mm _ (by omega) HGN.out (hGr.call hS.2)).mono ?_
            rintro e2 y2 ⟨rfl, hb2⟩
            rw [HDD.out]
            refine Onward.on ⟨hS.1.call hb2, hS.2.trans (hb2.mono hS.2.size)⟩ (fun hS2 => ?_)
            clear hS
            have hS := hS2
            clear hS2
            try simp only [Act.put, List.getElem_toArray, List.getElem_cons_succ, List.getElem_cons_zero, List.setIfInBounds_toArray, List.set_cons_zero, List.set_cons_succ]
            refine AnyG.takeC (i := 3) (v := ?_) rfl (by kernel_rfl) (fun _ _ _ h => h) rfl ?_ hS ?_
            rotate_left
            · (intro w' hSw; (try dsimp only at hSw); go_simp; try with_reducible rfl)
            try simp only [Act.put, List.getElem_toArray, List.getElem_cons_succ, List.getElem_cons_zero, List.setIfInBounds_toArray, List.set_cons_zero, List.set_cons_succ]
            refine AnyG.one (i := 5) (by kernel_rfl) rfl rfl ?_
            go_simp
            refine (needs_any v p g d0 d1 _ hun h0 h1).mono ?_
            rintro e5 y5 ⟨rfl, hb5⟩
            rw [HND.out]
            refine Onward.on ⟨hS.1.call hb5, hS.2.trans (hb5.mono hS.2.size)⟩ (fun hS2 => ?_)
            clear hS
            have hS := hS2
            clear hS2
            try simp only [Act.put, List.getElem_toArray, List.getElem_cons_succ, List.getElem_cons_zero, List.setIfInBounds_toArray, List.set_cons_zero, List.set_cons_succ]
            refine AnyG.takeC (i := 6) (v := ?_) rfl (by kernel_rfl) (fun _ _ _ h => h) rfl ?_ hS ?_
            rotate_left
            · (intro w' hSw; (try dsimp only at hSw); go_simp; try with_reducible rfl)
            try simp only [Act.put, List.getElem_toArray, List.getElem_cons_succ, List.getElem_cons_zero, List.setIfInBounds_toArray, List.set_cons_zero, List.set_cons_succ]
            refine AnyG.done (by kernel_rfl) ?_ _
            have kE := hS.1
            have hE2 : Below wr.heap.size wr y5 := hS.2
            have hBE := (hBY.trans (hYr.mono hYs)).trans (hE2.mono (Nat.le_trans hYs hYr.size))
            have O5 := own_bel (own_bel OY hYr) hE2
            have hfi := find_here HGT.out (f := fun m => decide (nd ≤ 1000 * dpt (lvL b.lv g) m)) (by rw [HDD.out]; exact hdd) hno.out
            have hov := ovr_some.1 (HFI.out.symm.trans hfi)
            have HR2 : Hid ((P ++ [mm]).length = q + 1 ∧ RR = (P ++ [mm]) ++ sal (slM nd (v.ss.drop (q + 1)) g) mm) := Lib.hid (by
              refine ⟨by simp [hP.out.1], ?_⟩
              rw [hP.out.2, HDS.out, hfi]
              simp)
            have hm0 : 0 ≤ mm := by omega
            have hm1 : mm ≤ 2880 := hov.2.1
            have O6 := own_bel O5 ((Below.refl y5.heap.size y5).alloc (Nat.le_refl _) (.cells #[.int .i64 mm] 3))
            have kn := Bx.at y5 3 #[.int .i64 mm] rfl
            have kE6 := kE.alloc (.cells #[.int .i64 mm] 3)
            have hys := hBE.size
            have hqw : IntKind.i64.wrap ((q : Int) + 1) = (q : Int) + 1 := IntWalk.i64_in _ (by omega)
            clear hS hov hfi O5 kE
            go_wp2_with (first
              | (at_builtin; refine wpList_append_own _ rfl (.tmp 49) (.tmp 51) 39 rfl w.heap.size 3 i3 _ 1 8 Tryd.underlying39 hi3 hz3 hs3 iy3 rfl (by decide) (.slice X q x) q (inr P).flatten rfl O6 ⟨y5.heap.size, 0, none⟩ 1 1 [.int .i64 mm] rfl rfl (bx_news kn) (by simp [Value.oneCell']) (by unfold maxLen; omega) (by omega) (by simp; omega) ?_; intro v' w' o1 o2 o3; obtain ⟨X', x', rfl⟩ := own_shape o1)
              | fail)
            go_roundw
            case rel =>
              refine ⟨q + 1, P ++ [mm], mm, q + 1, x', X', by go_num, by omega, rfl, rfl, hm0, hm1, rfl, HR2, ?_, kE6.grown o2 (own_bx O6 kE6 (by decide)), (hBE.alloc hys (.cells #[.int .i64 mm] 3)).grown o2 (by simp; omega) (fun k e => (O6.lt k e).1)⟩
              rw [inr_snoc]; exact o1
            case measure => simp [intOf]; omega
          · have hdd : decide (nd ≤ 1000 * DD) = false := by simpa using hdeep
            go_wp2_with fail
            refine AnyG.startC (by kernel_rfl) ?_
            refine AnyG.takeP (i := 0) (v := ?_) rfl (by kernel_rfl) (fun _ _ _ h => h) rfl ?_ ?_
            rotate_left
            · (intro w'; go_simp; try with_reducible rfl)
            try simp only [Act.put, List.getElem_toArray, List.getElem_cons_succ, List.getElem_cons_zero, List.setIfInBounds_toArray, List.set_cons_zero, List.set_cons_succ]
            refine AnyG.takeP (i := 1) (v := ?_) rfl (by kernel_rfl) (fun _ _ _ h => h) rfl ?_ ?_
            rotate_left
            · (intro w'; go_simp; try with_reducible rfl)
            try simp only [Act.put, List.getElem_toArray, List.getElem_cons_succ, List.getElem_cons_zero, List.setIfInBounds_toArray, List.set_cons_zero, List.set_cons_succ]
            refine AnyG.enter (fun w' : World => Bx w' w.heap.size 71 #[.int .i64 v.li, .int .i64 v.un, .int .i64 v.tr, .slice p.HA p.hn p.hc, .int .i64 v.le, .slice p.SA p.sn p.sc, .slice p.LA p.ln p.lc, .bool g, .int .i64 d0, .int .i64 d1] ∧ Below wr.heap.size wr w') (fun i => true) ?_
            have hS : (fun w' : World => Bx w' w.heap.size 71 #[.int .i64 v.li, .int .i64 v.un, .int .i64 v.tr, .slice p.HA p.hn p.hc, .int .i64 v.le, .slice p.SA p.sn p.sc, .slice p.LA p.ln p.lc, .bool g, .int .i64 d0, .int .i64 d1] ∧ Below wr.heap.size wr w') (World.drew _) := ⟨kr.drew, (Below.refl _ _).drew⟩
            refine AnyG.takeC (i := 4) (v := ?_) rfl (by kernel_rfl) (fun _ _ _ h => h) rfl ?_ hS ?_
            rotate_left
            · (intro w' hSw; (try dsimp only at hSw); obtain ⟨x0, x1, x2, x3, x4, x5, x6, x7, x8, x9, xf, xz⟩ := hSw.1.ten; go_simp; try with_reducible rfl)
            try simp only [Act.put, List.getElem_toArray, List.getElem_cons_succ, List.getElem_cons_zero, List.setIfInBounds_toArray, List.set_cons_zero, List.set_cons_succ]
            refine AnyG.one (i := 2) (by kernel_rfl) rfl rfl ?_
            go_simp
            refine (depth_any g G gn gc b.lv mm _ (by omega) HGN.out (hGr.call hS.2)).mono ?_
            rintro e2 y2 ⟨rfl, hb2⟩
            rw [HDD.out]
            refine Onward.on ⟨hS.1.call hb2, hS.2.trans (hb2.mono hS.2.size)⟩ (fun hS2 => ?_)
            clear hS
            have hS := hS2
            clear hS2
            try simp only [Act.put, List.getElem_toArray, List.getElem_cons_succ, List.getElem_cons_zero, List.setIfInBounds_toArray, List.set_cons_zero, List.set_cons_succ]
            refine AnyG.takeC (i := 3) (v := ?_) rfl (by kernel_rfl) (fun _ _ _ h => h) rfl ?_ hS ?_
            rotate_left
            · (intro w' hSw; (try dsimp only at hSw); go_simp; try with_reducible rfl)
            try simp only [Act.put, List.getElem_toArray, List.getElem_cons_succ, List.getElem_cons_zero, List.setIfInBounds_toArray, List.set_cons_zero, List.set_cons_succ]
            refine AnyG.one (i := 5) (by kernel_rfl) rfl rfl ?_
            go_simp
            refine (needs_any v p g d0 d1 _ hun h0 h1).mono ?_
            rintro e5 y5 ⟨rfl, hb5⟩
            rw [HND.out]
            refine Onward.on ⟨hS.1.call hb5, hS.2.trans (hb5.mono hS.2.size)⟩ (fun hS2 => ?_)
            clear hS
            have hS := hS2
            clear hS2
            try simp only [Act.put, List.getElem_toArray, List.getElem_cons_succ, List.getElem_cons_zero, List.setIfInBounds_toArray, List.set_cons_zero, List.set_cons_succ]
            refine AnyG.takeC (i := 6) (v := ?_) rfl (by kernel_rfl) (fun _ _ _ h => h) rfl ?_ hS ?_
            rotate_left
            · (intro w' hSw; (try dsimp only at hSw); go_simp; try with_reducible rfl)
            try simp only [Act.put, List.getElem_toArray, List.getElem_cons_succ, List.getElem_cons_zero, List.setIfInBounds_toArray, List.set_cons_zero, List.set_cons_succ]
            refine AnyG.done (by kernel_rfl) ?_ _
            have hE2 : Below wr.heap.size wr y5 := hS.2
            clear hS
            go_wp2_with fail
            go_roundw
            case rel => exact ⟨j + 1, by go_num, by omega, rfl, rfl, Lib.hid (fun k hk y hy => by
              by_cases e : k = j
              · subst e; rw [HGT.out] at hy; cases hy; rw [HDD.out]; exact hdd
              · exact hno.out k (by omega) y hy), hYr.trans (hE2.mono hYr.size)⟩
            case measure => simp [intOf]; omega
        · have hfi : ML.find? (fun m => decide (nd ≤ 1000 * dpt (lvL b.lv g) m)) = none := find_no (fun k y hy => hno.out k (by have := (List.getElem?_eq_some_iff.1 hy).1; rw [HMN.out] at this; omega) y hy)
          have HRP : Hid (RR = P) := Lib.hid (by rw [hP.out.2, HDS.out, hfi]; simp)
          have HPL := Lib.hid hP.out.1
          have O5 := own_bel OY hYr
          have hBE := hBY.trans (hYr.mono hYs)
          clear hfi
          go_wp2_with fail
          dsimp only [Exit.noGoto]
          go_ret
          rw [HRP.out, HPL.out]
          exact ⟨⟨X, x, rfl, O5⟩, hBE⟩
    · have HRP : Hid (RR = P) := Lib.hid (by rw [hP.out.2, List.drop_eq_nil_of_le (by rw [HSL.out]; omega)]; simp [slM, sal])
      have HPL := Lib.hid hP.out.1
      go_wp2_with fail
      dsimp only [Exit.noGoto]
      go_ret
      rw [HRP.out, HPL.out]
      exact ⟨⟨X, x, rfl, OO⟩, hB⟩
end Go.Proofs.YtdlohfglmagneaaDoor
