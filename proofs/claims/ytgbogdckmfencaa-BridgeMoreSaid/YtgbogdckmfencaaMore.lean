/- BridgeMore: what is known better. -/
import Derived.Test.YtgbogdckmfencaaMo
import Derived.Deep.CutBlock
set_option linter.unusedSimpArgs false
set_option linter.unusedVariables false
namespace Go.Proofs.Ytgbogdckmfencaa
open Go Go.RowKit
theorem ft_cell {g : Nat} {V x : World} (h : FT g V x) (hf : Fd g V) {p : Addr} {v : Value} (hc : V.cell? p = some v) (hp : p.block < V.heap.size) (hv : ∀ y, v ≠ .int .u64 y) : x.cell? p = some v := by
  have hne := fd_cell hf hc hv
  have hb := h.1.block p.block hp (by simpa using hne)
  unfold World.cell? at hc ⊢
  rw [hb]
  exact hc
theorem own_fd_ne {g : Nat} {V : World} {b n c q : Nat} {xs : List Value} {s : Nat} (o : V.ownsRow b 28 s (.slice (some ⟨q, 0, none⟩) n c) n xs) (hf : Fd g V) : g ≠ q := fun h => by
  obtain ⟨y, _, _, hy⟩ := hf
  exact own_bx o hy (by decide) (by rw [h]; rfl)
set_option maxRecDepth 100000 in
set_option maxHeartbeats 8000000 in
theorem more_run (A : Option Addr) (n c : Nat) (L : List Int) (w : World) (hn : n ≤ 9000000000000000000) (hl : L.length = n) (hA : Sl w w.heap.size 1 A (ints L)) : Calls Try.prog 9 #[.slice A n c] w fun e w' => e = .returned (.bool true) ∧ Below w.heap.size w w' := by
  have HL := Lib.hid hl
  clear hl
  obtain ⟨i3, hi3, hz3, hs3, iy3⟩ := info_parts info28
  go_enter Try.func9, Try.ntmps9
  go_upto_region 3 with (first
    | (go_at_call 16; refine (feedOf_any A n c L _ hn HL.out hA).mono ?_; rintro e w1 ⟨⟨g, rfl, hg0, hfd⟩, hb1⟩)
    | (go_at_call 15; refine (logOf_any g 8 60 false _ hfd (by omega) (by omega) (by omega) (by omega)).mono ?_; rintro e w2 ⟨st, z0, z1, ts, z, ev, zv, nv, rfl, ⟨hs1, hs2, -, hz0, hz01, hz1⟩, hmd, hlen, hoe, hoz, hon, -, hfd2, hgr2⟩; obtain ⟨EA, EC, rfl⟩ := own_shape hoe; obtain ⟨ZA, ZC, rfl⟩ := own_shape hoz; obtain ⟨NA, NC, rfl⟩ := own_shape hon)
    | fail)
  have hBw : Below w.heap.size w w2 := hb1.grown hgr2 hb1.size (fun k e => by cases e; exact hg0)
  have hgl2 := hfd2.lt
  obtain ⟨k, hk⟩ : ∃ k, ts.length = k := ⟨_, rfl⟩
  have hck := hmd.ck hs1 (by omega) hz0 hz01 hz1 (by omega) (by omega)
  have hfit := hmd.fit hs1 hz0 hz1 (by omega) (by omega)
  rw [hk] at hoe hoz hon hlen hfit ⊢
  have hel : (evsOf ts).length = k := by rw [← hk]; simp [evsOf]
  obtain ⟨es, hes⟩ : ∃ x, evsOf ts = x := ⟨_, rfl⟩
  rw [hes] at hoe hck hfit hel
  have hE0 : EvsAt ((w2.alloc (.cells #[.int .i64 st, .int .i64 z0, .int .i64 z1, .slice EA k EC] 26)).alloc (.cells #[.slice ZA k ZC, .slice NA k NC] 32)) ((w2.alloc (.cells #[.int .i64 st, .int .i64 z0, .int .i64 z1, .slice EA k EC] 26)).alloc (.cells #[.slice ZA k ZC, .slice NA k NC] 32)).heap.size EA es := (((own_evs2 hoe hel).alloc (Nat.le_refl _) _).alloc (by simp) _).more (by simp; omega)
  have hf0 : Fd g ((w2.alloc (.cells #[.int .i64 st, .int .i64 z0, .int .i64 z1, .slice EA k EC] 26)).alloc (.cells #[.slice ZA k ZC, .slice NA k NC] 32)) := (hfd2.alloc _).alloc _
  have kL0 := (Bx.new w2 26 #[.int .i64 st, .int .i64 z0, .int .i64 z1, .slice EA k EC]).alloc (.cells #[.slice ZA k ZC, .slice NA k NC] 32)
  have hB0 := (hBw.alloc hBw.size (.cells #[.int .i64 st, .int .i64 z0, .int .i64 z1, .slice EA k EC] 26)).alloc (by have := hBw.size; simp; omega) (.cells #[.slice ZA k ZC, .slice NA k NC] 32)
  obtain ⟨V, hV⟩ : ∃ V, (w2.alloc (.cells #[.int .i64 st, .int .i64 z0, .int .i64 z1, .slice EA k EC] 26)).alloc (.cells #[.slice ZA k ZC, .slice NA k NC] 32) = V := ⟨_, rfl⟩
  rw [hV] at hE0 hf0 kL0 hB0 ⊢
  obtain ⟨bL, hbL⟩ : ∃ b, w2.heap.size = b := ⟨_, rfl⟩
  have hgL : g ≠ bL := by omega
  rw [hbL] at kL0 ⊢
  have HCK := Lib.hid hck
  have HFIT := Lib.hid hfit
  have HEL := Lib.hid hel
  have hk14 : k ≤ 14 := by omega
  have hk8 : k ≤ 8 := by omega
  have hev : ∀ e ∈ es, EvOk e := (ckL_zero hck).ev
  have HEV := Lib.hid hev
  have hgV := hf0.lt
  have hLV := kL0.lt
  have hwV : w.heap.size ≤ V.heap.size := hB0.size
  clear hoe hoz hon hfd hgr2 hmd hV hbL hes hk hck hfit hel hBw hfd2 hgl2 hb1 hev
  obtain ⟨l0, l1, l2, l3, lf, lz⟩ := kL0.four
  go_upto_region 4 with (first
    | (go_at_call 17; refine (copyLog_any st z0 z1 EA k EC es _ hk14 HEL.out hE0).mono ?_; rintro e x1 ⟨⟨MA, MC, rfl, hoM0⟩, hq1⟩)
    | fail)
  clear l0 l1 l2 l3 lf lz
  have hT1 : FT g V (x1.alloc (.cells #[.int .i64 st, .int .i64 z0, .int .i64 z1, .slice MA k MC] 26)) := ((FT.self hf0).bel hq1).alloc _
  have hoM1 := hoM0.alloc (.cells #[.int .i64 st, .int .i64 z0, .int .i64 z1, .slice MA k MC] 26)
  have kM1 := Bx.new x1 26 #[.int .i64 st, .int .i64 z0, .int .i64 z1, .slice MA k MC]
  have hVx := hq1.size
  obtain ⟨X, hX⟩ : ∃ X, x1.alloc (.cells #[.int .i64 st, .int .i64 z0, .int .i64 z1, .slice MA k MC] 26) = X := ⟨_, rfl⟩
  rw [hX] at hT1 hoM1 kM1 ⊢
  obtain ⟨bM, hbM⟩ : ∃ b, x1.heap.size = b := ⟨_, rfl⟩
  have hVM : V.heap.size ≤ bM := by omega
  have hgM : g ≠ bM := by omega
  have hLM : bL ≠ bM := by omega
  rw [hbM] at kM1 ⊢
  clear hX hbM hq1 hoM0 hVx
  obtain ⟨l0, l1, l2, l3, lf, lz⟩ := (hT1.bx kL0 (Ne.symm hgL)).four
  go_upto_region 5 with (first
    | (go_at_call 48; refine (tighter_any g z0 z1 _ hT1.2 (by omega) (by omega) (by omega)).mono ?_; rintro e x2 ⟨⟨y0, y1, rfl, hy0, hy01, hy1⟩, hfd2, hgr2⟩; have kM2 := kM1.grown hgr2 (by simpa using Ne.symm hgM); obtain ⟨a0, a1, a2, a3, af, az⟩ := kM2.four)
    | fail)
  have hT2 := ((hT1.call hgr2 hfd2).set_ hVM hgM 1 (.int .i64 y0)).set_ hVM hgM 2 (.int .i64 y1)
  have ho2 := own_fd hoM1 hT1.2 hgr2 (by decide)
  have ho3 := own_set (own_set ho2 (own_bx ho2 kM2 (by decide)) (o := 1) (.int .i64 y0)) (own_bx ho2 kM2 (by decide)) (o := 2) (.int .i64 y1)
  have kM3 : Bx (World.setCell (World.setCell x2 ⟨bM, 1, none⟩ (.int .i64 y0)) ⟨bM, 2, none⟩ (.int .i64 y1)) bM 26 #[.int .i64 st, .int .i64 y0, .int .i64 y1, .slice MA k MC] := by simpa using (kM2.set_ 1 (.int .i64 y0)).set_ 2 (.int .i64 y1)
  obtain ⟨X2, hX2⟩ : ∃ V, World.setCell (World.setCell x2 ⟨bM, 1, none⟩ (.int .i64 y0)) ⟨bM, 2, none⟩ (.int .i64 y1) = V := ⟨_, rfl⟩
  rw [hX2] at hT2 ho3 kM3 ⊢
  clear hX2 kM2 a0 a1 a2 a3 af az l0 l1 l2 l3 lf lz ho2 hT1 hoM1 kM1 hgr2 hfd2
  go_wp2_with fail
  go_loopw [7] (fun v7 wr => ∃ (i : Nat) (es2 : List Ev), i ≤ k ∧ v7 = .int .i64 i ∧ Thin es es2 ∧ FT g V wr ∧ Bx wr bM 26 #[.int .i64 st, .int .i64 y0, .int .i64 y1, .slice MA k MC] ∧ wr.ownsRow V.heap.size 28 5 (.slice MA k MC) k (es2.map Ev.cells).flatten) (fun v7 _ => k - (intOf v7).toNat)
  case atStart => exact ⟨0, es, by omega, rfl, Thin.refl (fun e he => (HEV.out e he).c2), hT2, kM3, ho3⟩
  case round =>
    clear hT2 kM3 ho3
    obtain ⟨i, es2, hi, rfl, hth, hT, kM, hoM⟩ := hrel
    by_cases hik : i < k
    · have hie : i < es.length := by rw [HEL.out]; exact hik
      obtain ⟨e, he⟩ : ∃ e, es[i]? = some e := ⟨_, List.getElem?_eq_getElem hie⟩
      obtain ⟨e2, he2, -⟩ := hth.ev i e he
      have hok := HEV.out e (List.mem_of_getElem? he)
      have hc := And.intro hok.c1 (And.intro hok.c2 hok.c3)
      obtain ⟨q, rfl⟩ := own_some hoM (by omega)
      obtain ⟨ea, rfl, hea, -, -, -, hp3, hp4⟩ := hE0.at_ hie
      have hge : es[i] = e := by rw [List.getElem?_eq_getElem hie] at he; exact Option.some.inj he
      rw [hge] at hp3 hp4
      obtain ⟨u0, hu0⟩ : ∃ u, e.c0 = u := ⟨_, rfl⟩
      obtain ⟨u1, hu1⟩ : ∃ u, e.c1 = u := ⟨_, rfl⟩
      have HU := Lib.hid (And.intro hu0 hu1)
      rw [hu0] at hp3 hc
      rw [hu1] at hp4 hc
      have HP := Lib.hid (And.intro hp3 hp4)
      have HE := Lib.hid he
      have HE2 := Lib.hid he2
      have HTH := Lib.hid hth
      have hL2 : es2.length = k := by rw [hth.len]; exact HEL.out
      have HL2 := Lib.hid hL2
      have hqV := (hoM.lt q rfl).1
      clear hp3 hp4 he he2 hge hu0 hu1 hok hth hL2
      have kL := hT.bx kL0 (Ne.symm hgL)
      obtain ⟨l0, l1, l2, l3, lf, lz⟩ := kL.four
      obtain ⟨a0, a1, a2, a3, af, az⟩ := kM.four
      go_wp2_with fail
      clear l0 l1 l2 l3 lf lz a0 a1 a2 a3 af az kL
      refine AnyG.startC (by kernel_rfl) ?_
      refine AnyG.takeP (i := 0) (v := ?_) rfl (by kernel_rfl) (fun _ _ _ h => h) rfl ?_ ?_
      rotate_left
      · (intro w'; go_simp; try with_reducible rfl)
      try simp only [Act.put, List.getElem_toArray, List.getElem_cons_succ, List.getElem_cons_zero, List.setIfInBounds_toArray, List.set_cons_zero, List.set_cons_succ]
      refine AnyG.takeP (i := 2) (v := ?_) rfl (by kernel_rfl) (fun _ _ _ h => h) rfl ?_ ?_
      rotate_left
      · (intro w'; go_simp; try with_reducible rfl)
      try simp only [Act.put, List.getElem_toArray, List.getElem_cons_succ, List.getElem_cons_zero, List.setIfInBounds_toArray, List.set_cons_zero, List.set_cons_succ]
      refine AnyG.takeP (i := 3) (v := ?_) rfl (by kernel_rfl) (fun _ _ _ h => h) rfl ?_ ?_
      rotate_left
      · (intro w'; go_simp; try with_reducible rfl)
      try simp only [Act.put, List.getElem_toArray, List.getElem_cons_succ, List.getElem_cons_zero, List.setIfInBounds_toArray, List.set_cons_zero, List.set_cons_succ]
      refine AnyG.takeP (i := 4) (v := ?_) rfl (by kernel_rfl) (fun _ _ _ h => h) rfl ?_ ?_
      rotate_left
      · (intro w'; go_simp; try with_reducible rfl)
      try simp only [Act.put, List.getElem_toArray, List.getElem_cons_succ, List.getElem_cons_zero, List.setIfInBounds_toArray, List.set_cons_zero, List.set_cons_succ]
      refine AnyG.takeP (i := 6) (v := ?_) rfl (by kernel_rfl) (fun _ _ _ h => h) rfl ?_ ?_
      rotate_left
      · (intro w'; go_simp; try with_reducible rfl)
      try simp only [Act.put, List.getElem_toArray, List.getElem_cons_succ, List.getElem_cons_zero, List.setIfInBounds_toArray, List.set_cons_zero, List.set_cons_succ]
      refine AnyG.enter (fun w' : World => FT g V w' ∧ Bx w' bM 26 #[.int .i64 st, .int .i64 y0, .int .i64 y1, .slice (some ⟨q, 0, none⟩) k MC] ∧ w'.ownsRow V.heap.size 28 5 (.slice (some ⟨q, 0, none⟩) k MC) k (es2.map Ev.cells).flatten) (fun i => i != 13) ?_
      have hS : (fun w' : World => FT g V w' ∧ Bx w' bM 26 #[.int .i64 st, .int .i64 y0, .int .i64 y1, .slice (some ⟨q, 0, none⟩) k MC] ∧ w'.ownsRow V.heap.size 28 5 (.slice (some ⟨q, 0, none⟩) k MC) k (es2.map Ev.cells).flatten) (World.drew _) := ⟨hT.step ⟨grown_drew _ _, fun h => h.drew⟩, kM.drew, hoM.drew⟩
      refine AnyG.takeC (i := 1) (v := ?_) rfl (by kernel_rfl) (fun _ _ _ h => h) rfl ?_ hS ?_
      rotate_left
      · (intro w' hSw; (try dsimp only at hSw); obtain ⟨a0, a1, a2, a3, af, az⟩ := hSw.2.1.four; go_simp; try with_reducible rfl)
      try simp only [Act.put, List.getElem_toArray, List.getElem_cons_succ, List.getElem_cons_zero, List.setIfInBounds_toArray, List.set_cons_zero, List.set_cons_succ]
      refine AnyG.takeC (i := 5) (v := ?_) rfl (by kernel_rfl) (fun _ _ _ h => h) rfl ?_ hS ?_
      rotate_left
      · (intro w' hSw; (try dsimp only at hSw); obtain ⟨l0, l1, l2, l3, lf, lz⟩ := (hSw.1.bx kL0 (Ne.symm hgL)).four; go_simp; try with_reducible rfl)
      try simp only [Act.put, List.getElem_toArray, List.getElem_cons_succ, List.getElem_cons_zero, List.setIfInBounds_toArray, List.set_cons_zero, List.set_cons_succ]
      refine AnyG.takeC (i := 7) (v := ?_) rfl (by kernel_rfl) (fun _ _ _ h => h) rfl ?_ hS ?_
      rotate_left
      · (intro w' hSw; (try dsimp only at hSw); go_simp; try with_reducible rfl)
      try simp only [Act.put, List.getElem_toArray, List.getElem_cons_succ, List.getElem_cons_zero, List.setIfInBounds_toArray, List.set_cons_zero, List.set_cons_succ]
      refine AnyG.takeC (i := 8) (v := ?_) rfl (by kernel_rfl) (fun _ _ _ h => h) rfl ?_ hS ?_
      rotate_left
      · (intro w' hSw; (try dsimp only at hSw); go_simp; try with_reducible rfl)
      try simp only [Act.put, List.getElem_toArray, List.getElem_cons_succ, List.getElem_cons_zero, List.setIfInBounds_toArray, List.set_cons_zero, List.set_cons_succ]
      refine AnyG.takeC (i := 9) (v := ?_) rfl (by kernel_rfl) (fun _ _ _ h => h) rfl ?_ hS ?_
      rotate_left
      · (intro w' hSw; (try dsimp only at hSw); have p3 := (ft_cell hSw.1 hf0 HP.out.1 (by rw [add_block]; exact hea) (by simp)); have p4 := (ft_cell hSw.1 hf0 HP.out.2 (by show (ea.add (i * 5)).block < _; rw [add_block]; exact hea) (by simp)); go_simp; try with_reducible rfl)
      try simp only [Act.put, List.getElem_toArray, List.getElem_cons_succ, List.getElem_cons_zero, List.setIfInBounds_toArray, List.set_cons_zero, List.set_cons_succ]
      refine AnyG.one (i := 10) (by kernel_rfl) rfl rfl ?_
      go_simp
      refine (tighter_any g u0 u1 _ hS.1.2 (by omega) (by omega) (by omega)).mono ?_
      rintro er y10 ⟨⟨d0, d1, rfl, hd0, hd01, hd1⟩, hf10, hg10⟩
      refine Onward.on ⟨hS.1.call hg10 hf10, hS.2.1.grown hg10 (by simpa using Ne.symm hgM), own_fd hS.2.2 hS.1.2 hg10 (by decide)⟩ (fun hS2 => ?_)
      clear hS
      have hS := hS2
      clear hS2
      try simp only [Act.put, List.getElem_toArray, List.getElem_cons_succ, List.getElem_cons_zero, List.setIfInBounds_toArray, List.set_cons_zero, List.set_cons_succ]
      refine AnyG.takeC (i := 11) (v := ?_) rfl (by kernel_rfl) (fun _ _ _ h => h) rfl ?_ hS ?_
      rotate_left
      · (intro w' hSw; (try dsimp only at hSw); go_simp; try with_reducible rfl)
      try simp only [Act.put, List.getElem_toArray, List.getElem_cons_succ, List.getElem_cons_zero, List.setIfInBounds_toArray, List.set_cons_zero, List.set_cons_succ]
      refine AnyG.takeC (i := 12) (v := ?_) rfl (by kernel_rfl) (fun _ _ _ h => h) rfl ?_ hS ?_
      rotate_left
      · (intro w' hSw; (try dsimp only at hSw); go_simp; try with_reducible rfl)
      try simp only [Act.put, List.getElem_toArray, List.getElem_cons_succ, List.getElem_cons_zero, List.setIfInBounds_toArray, List.set_cons_zero, List.set_cons_succ]
      refine AnyG.one (i := 13) (by kernel_rfl) rfl rfl ?_
      have pf := own_free hS.2.2
      obtain ⟨p0, p1, p2, p3, p4⟩ := own_at hS.2.2 HL2.out HE2.out
      go_simp
      refine Onward.last rfl ?_
      try simp only [Act.put, List.getElem_toArray, List.getElem_cons_succ, List.getElem_cons_zero, List.setIfInBounds_toArray, List.set_cons_zero, List.set_cons_succ]
      refine AnyG.done (by kernel_rfl) ?_ _
      go_simp
      go_wp2_with fail
      go_roundw
      case rel =>
        refine ⟨i + 1, es2.set i { e2 with c0 := d0, c1 := d1 }, by omega, by go_num, HTH.out.set HE.out HE2.out (by rw [HU.out.1]; exact hd0) hd01 (by rw [HU.out.2]; exact hd1), (hS.1.set_ hqV (own_fd_ne hS.2.2 hS.1.2) _ _).set_ hqV (own_fd_ne hS.2.2 hS.1.2) _ _, (hS.2.1.far (by simp; exact fun h => own_bx hS.2.2 hS.2.1 (by decide) (by rw [h]; rfl)) _).far (by simp; exact fun h => own_bx hS.2.2 hS.2.1 (by decide) (by rw [h]; rfl)) _, ?_⟩
        rw [← evs_set_c _ _ _ HE2.out]
        have hlt : i < es2.length := by rw [HL2.out]; exact hik
        exact own_store (own_store hS.2.2 (i * 5 + 3) _ (by omega)) (i * 5 + 4) _ (by omega)
      case measure => simp [intOf]; omega
    · obtain rfl : i = k := by omega
      obtain ⟨a0, a1, a2, a3, af, az⟩ := kM.four
      go_upto_if 54 with (first | (go_at_call 37; refine (often_any g 1 2 _ hT.2 (by omega) (by omega)).mono ?_; rintro er x3 ⟨⟨tb, rfl⟩, hfd3, hgr3⟩) | fail)
      clear a0 a1 a2 a3 af az
      have hT3 := hT.call hgr3 hfd3
      have kM3 := kM.grown hgr3 (by simpa using Ne.symm hgM)
      have ho3 := own_fd hoM hT.2 hgr3 (by decide)
      clear hT kM hoM hfd3 hgr3
      go_cut [] (fun wr => ∃ (x0 x1 : Int) (XA : Option Addr) (m XC : Nat) (ex : List Ev), Known st z0 z1 es x0 x1 ex ∧ ex.length = m ∧ FT g V wr ∧ Bx wr bM 26 #[.int .i64 st, .int .i64 x0, .int .i64 x1, .slice XA m XC] ∧ wr.ownsRow V.heap.size 28 5 (.slice XA m XC) m (ex.map Ev.cells).flatten)
      case first =>
        cases tb
        · go_wp2_with fail
          go_meet
          exact ⟨y0, y1, MA, i, MC, es2, ⟨hth.narrow, hy0, hy1, hth.ck HCK.out hy0 hy01 hy1, .inl hth.len⟩, by rw [hth.len]; exact HEL.out, hT3, kM3, ho3⟩
        · have hE3 := hT3.sl hf0 hE0 (evs_no es)
          obtain ⟨l0, l1, l2, l3, lf, lz⟩ := (hT3.bx kL0 (Ne.symm hgL)).four
          go_upto_region 11 with (first | (go_at_call 17; refine (copyLog_any st z0 z1 EA i EC es _ hk14 HEL.out hE3).mono ?_; rintro er x4 ⟨⟨M2A, M2C, rfl, ho4⟩, hq4⟩; have kM4 := kM3.call hq4; obtain ⟨a0, a1, a2, a3, af, az⟩ := kM4.four) | fail)
          have hT4 := ((((hT3.bel hq4).set_ hVM hgM 0 (.int .i64 st)).set_ hVM hgM 1 (.int .i64 z0)).set_ hVM hgM 2 (.int .i64 z1)).set_ hVM hgM 3 (.slice M2A i M2C)
          have ho5 := ownsRow_up (b' := V.heap.size) ho4 (fun q e => Nat.le_trans hT3.size (ho4.lt q e).1)
          have ho6 := own_set (own_set (own_set (own_set ho5 (own_bx ho5 kM4 (by decide)) (o := 0) (.int .i64 st)) (own_bx ho5 kM4 (by decide)) (o := 1) (.int .i64 z0)) (own_bx ho5 kM4 (by decide)) (o := 2) (.int .i64 z1)) (own_bx ho5 kM4 (by decide)) (o := 3) (.slice M2A i M2C)
          have kM5 : Bx (World.setCell (World.setCell (World.setCell (World.setCell x4 ⟨bM, 0, none⟩ (.int .i64 st)) ⟨bM, 1, none⟩ (.int .i64 z0)) ⟨bM, 2, none⟩ (.int .i64 z1)) ⟨bM, 3, none⟩ (.slice M2A i M2C)) bM 26 #[.int .i64 st, .int .i64 z0, .int .i64 z1, .slice M2A i M2C] := by simpa using (((kM4.set_ 0 (.int .i64 st)).set_ 1 (.int .i64 z0)).set_ 2 (.int .i64 z1)).set_ 3 (.slice M2A i M2C)
          obtain ⟨X5, hX5⟩ : ∃ V, (World.setCell (World.setCell (World.setCell (World.setCell x4 ⟨bM, 0, none⟩ (.int .i64 st)) ⟨bM, 1, none⟩ (.int .i64 z0)) ⟨bM, 2, none⟩ (.int .i64 z1)) ⟨bM, 3, none⟩ (.slice M2A i M2C)) = V := ⟨_, rfl⟩
          rw [hX5] at hT4 ho6 kM5 ⊢
          clear hX5 a0 a1 a2 a3 af az l0 l1 l2 l3 lf lz ho4 ho5 kM4 hq4 hE3 hT3 kM3 ho3
          obtain ⟨l0, l1, l2, l3, lf, lz⟩ := (hT4.bx kL0 (Ne.symm hgL)).four
          clear l0 l1 l2 l3 lf lz
          refine AnyG.startC (by kernel_rfl) ?_
          refine AnyG.takeP (i := 0) (v := ?_) rfl (by kernel_rfl) (fun _ _ _ h => h) rfl ?_ ?_
          rotate_left
          · (intro w'; go_simp; try with_reducible rfl)
          try simp only [Act.put, List.getElem_toArray, List.getElem_cons_succ, List.getElem_cons_zero, List.setIfInBounds_toArray, List.set_cons_zero, List.set_cons_succ]
          refine AnyG.takeP (i := 2) (v := ?_) rfl (by kernel_rfl) (fun _ _ _ h => h) rfl ?_ ?_
          rotate_left
          · (intro w'; go_simp; try with_reducible rfl)
          try simp only [Act.put, List.getElem_toArray, List.getElem_cons_succ, List.getElem_cons_zero, List.setIfInBounds_toArray, List.set_cons_zero, List.set_cons_succ]
          refine AnyG.takeP (i := 4) (v := ?_) rfl (by kernel_rfl) (fun _ _ _ h => h) rfl ?_ ?_
          rotate_left
          · (intro w'; go_simp; try with_reducible rfl)
          try simp only [Act.put, List.getElem_toArray, List.getElem_cons_succ, List.getElem_cons_zero, List.setIfInBounds_toArray, List.set_cons_zero, List.set_cons_succ]
          refine AnyG.takeP (i := 7) (v := ?_) rfl (by kernel_rfl) (fun _ _ _ h => h) rfl ?_ ?_
          rotate_left
          · (intro w'; go_simp; try with_reducible rfl)
          try simp only [Act.put, List.getElem_toArray, List.getElem_cons_succ, List.getElem_cons_zero, List.setIfInBounds_toArray, List.set_cons_zero, List.set_cons_succ]
          refine AnyG.enter (fun w' : World => FT g V w' ∧ Bx w' bM 26 #[.int .i64 st, .int .i64 z0, .int .i64 z1, .slice M2A i M2C] ∧ w'.ownsRow V.heap.size 28 5 (.slice M2A i M2C) i (es.map Ev.cells).flatten) (fun i => i != 13) ?_
          have hS : (fun w' : World => FT g V w' ∧ Bx w' bM 26 #[.int .i64 st, .int .i64 z0, .int .i64 z1, .slice M2A i M2C] ∧ w'.ownsRow V.heap.size 28 5 (.slice M2A i M2C) i (es.map Ev.cells).flatten) (World.drew _) := ⟨hT4.step ⟨grown_drew _ _, fun h => h.drew⟩, kM5.drew, ho6.drew⟩
          refine AnyG.takeC (i := 1) (v := ?_) rfl (by kernel_rfl) (fun _ _ _ h => h) rfl ?_ hS ?_
          rotate_left
          · (intro w' hSw; (try dsimp only at hSw); obtain ⟨a0, a1, a2, a3, af, az⟩ := hSw.2.1.four; go_simp; try with_reducible rfl)
          try simp only [Act.put, List.getElem_toArray, List.getElem_cons_succ, List.getElem_cons_zero, List.setIfInBounds_toArray, List.set_cons_zero, List.set_cons_succ]
          refine AnyG.takeC (i := 5) (v := ?_) rfl (by kernel_rfl) (fun _ _ _ h => h) rfl ?_ hS ?_
          rotate_left
          · (intro w' hSw; (try dsimp only at hSw); obtain ⟨l0, l1, l2, l3, lf, lz⟩ := (hSw.1.bx kL0 (Ne.symm hgL)).four; go_simp; try with_reducible rfl)
          try simp only [Act.put, List.getElem_toArray, List.getElem_cons_succ, List.getElem_cons_zero, List.setIfInBounds_toArray, List.set_cons_zero, List.set_cons_succ]
          refine AnyG.one (i := 3) (by kernel_rfl) rfl rfl ?_
          go_simp
          refine (between_any g (-2) 2 _ hS.1.2 (by omega) (by omega) (by omega) (by omega)).mono ?_
          rintro er y3 ⟨⟨q, rfl, hqa, hqb⟩, hf3, hg3⟩
          have hqs : -100 ≤ q * st ∧ q * st ≤ 100 := by rcases (show q = -2 ∨ q = -1 ∨ q = 0 ∨ q = 1 ∨ q = 2 by omega) with r | r | r | r | r <;> rw [r] <;> omega
          have hw6 : IntKind.i64.wrap (q * st) = q * st := IntWalk.i64_in _ (by omega)
          refine Onward.on ⟨hS.1.call hg3 hf3, hS.2.1.grown hg3 (by simpa using Ne.symm hgM), own_fd hS.2.2 hS.1.2 hg3 (by decide)⟩ (fun hS2 => ?_)
          clear hS
          have hS := hS2
          clear hS2
          try simp only [Act.put, List.getElem_toArray, List.getElem_cons_succ, List.getElem_cons_zero, List.setIfInBounds_toArray, List.set_cons_zero, List.set_cons_succ]
          refine AnyG.takeC (i := 6) (v := ?_) rfl (by kernel_rfl) (fun _ _ _ h => h) rfl ?_ hS ?_
          rotate_left
          · (intro w' hSw; (try dsimp only at hSw); go_simp; try with_reducible rfl)
          try simp only [Act.put, List.getElem_toArray, List.getElem_cons_succ, List.getElem_cons_zero, List.setIfInBounds_toArray, List.set_cons_zero, List.set_cons_succ]
          refine AnyG.one (i := 8) (by kernel_rfl) rfl rfl ?_
          go_simp
          refine (range_any g (-3) 3 _ hS.1.2 (by omega) (by omega) (by omega)).mono ?_
          rintro er y8 ⟨⟨c0, c1, rfl, hca, hcb, hcc⟩, hf8, hg8⟩
          refine Onward.on ⟨hS.1.call hg8 hf8, hS.2.1.grown hg8 (by simpa using Ne.symm hgM), own_fd hS.2.2 hS.1.2 hg8 (by decide)⟩ (fun hS2 => ?_)
          clear hS
          have hS := hS2
          clear hS2
          try simp only [Act.put, List.getElem_toArray, List.getElem_cons_succ, List.getElem_cons_zero, List.setIfInBounds_toArray, List.set_cons_zero, List.set_cons_succ]
          refine AnyG.takeC (i := 9) (v := ?_) rfl (by kernel_rfl) (fun _ _ _ h => h) rfl ?_ hS ?_
          rotate_left
          · (intro w' hSw; (try dsimp only at hSw); go_simp; try with_reducible rfl)
          try simp only [Act.put, List.getElem_toArray, List.getElem_cons_succ, List.getElem_cons_zero, List.setIfInBounds_toArray, List.set_cons_zero, List.set_cons_succ]
          refine AnyG.one (i := 10) (by kernel_rfl) rfl rfl ?_
          have kb := Bx.new y8 28 #[.int .i64 1, .int .i64 (q * st), .int .i64 0, .int .i64 c0, .int .i64 c1]
          go_simp
          refine Onward.on ⟨hS.1.alloc _, hS.2.1.alloc _, hS.2.2.alloc _⟩ (fun hS2 => ?_)
          clear hS
          have hS := hS2
          clear hS2
          try simp only [Act.put, List.getElem_toArray, List.getElem_cons_succ, List.getElem_cons_zero, List.setIfInBounds_toArray, List.set_cons_zero, List.set_cons_succ]
          refine AnyG.one (i := 11) (by kernel_rfl) rfl rfl ?_
          refine wp_app2 (.tmp 58) (.tmp 67) 24 rfl V.heap.size 28 i3 _ 5 40 Try.underlying24 hi3 hz3 hs3 iy3 rfl (by decide) (.slice M2A i M2C) i (es.map Ev.cells).flatten (by simp [Act.eval]) hS.2.2 ⟨y8.heap.size, 0, none⟩ 1 1 [.int .i64 1, .int .i64 (q * st), .int .i64 0, .int .i64 c0, .int .i64 c1] (by simp [Act.eval]) rfl (bx_news kb) (by simp [Value.oneCell']) (by unfold maxLen; omega) (by omega) (Nat.le_trans hS.1.size (by simp)) ?_
          intro v' w' o1 o2 o3 o4
          obtain ⟨NA, NC, rfl⟩ := own_shape o1
          have hT11 := hS.1.own hS.2.2 o2 (Nat.le_refl _) (by decide)
          have k11 := hS.2.1.grown o2 (own_bx hS.2.2 hS.2.1 (by decide))
          refine Onward.on ⟨hT11, k11, o3⟩ (fun hS2 => ?_)
          clear hS
          have hS := hS2
          clear hS2
          try simp only [Act.put, List.getElem_toArray, List.getElem_cons_succ, List.getElem_cons_zero, List.setIfInBounds_toArray, List.set_cons_zero, List.set_cons_succ]
          refine AnyG.takeC (i := 12) (v := ?_) rfl (by kernel_rfl) (fun _ _ _ h => h) rfl ?_ hS ?_
          rotate_left
          · (intro w' hSw; (try dsimp only at hSw); go_simp; try with_reducible rfl)
          try simp only [Act.put, List.getElem_toArray, List.getElem_cons_succ, List.getElem_cons_zero, List.setIfInBounds_toArray, List.set_cons_zero, List.set_cons_succ]
          refine AnyG.one (i := 13) (by kernel_rfl) rfl rfl ?_
          obtain ⟨a0, a1, a2, a3, af, az⟩ := k11.four
          go_simp
          refine Onward.last rfl ?_
          try simp only [Act.put, List.getElem_toArray, List.getElem_cons_succ, List.getElem_cons_zero, List.setIfInBounds_toArray, List.set_cons_zero, List.set_cons_succ]
          refine AnyG.done (by kernel_rfl) ?_ _
          go_simp
          go_wp2_with fail
          go_meet
          have he5 : ((es ++ [(⟨1, q * st, 0, c0, c1⟩ : Ev)]).map Ev.cells).flatten = (es.map Ev.cells).flatten ++ [.int .i64 1, .int .i64 (q * st), .int .i64 0, .int .i64 c0, .int .i64 c1] := by simp [Ev.cells]
          refine ⟨z0, z1, NA, i + 1, NC, es ++ [⟨1, q * st, 0, c0, c1⟩], ⟨narrow_snoc _ _, Int.le_refl _, Int.le_refl _, ck_snoc HCK.out (by omega) (by rw [HEL.out]; omega) (by omega) (by omega) hca hcb hcc, .inr (by simp)⟩, by simp; exact HEL.out, hT11.set_ hVM hgM _ _, by simpa using k11.set_ 3 (.slice NA (i + 1) NC), ?_⟩
          rw [he5]
          exact own_set o1 (own_bx o1 k11 (by decide)) _
      case rest =>
        obtain ⟨x0, x1, XA, m, XC, ex, hkn, hxl, hT, kX, hoX⟩ := hcut
        have hE := hT.sl hf0 hE0 (evs_no es)
        have hX := own_evs2 hoX hxl
        have kL := hT.bx kL0 (Ne.symm hgL)
        have hm14 : m ≤ 14 := by rw [← hxl]; exact (ckL_zero hkn.ck).n
        have hml : i ≤ m := by rw [← hxl, ← HEL.out]; exact hkn.nar.len
        skip
        obtain ⟨l0, l1, l2, l3, lf, lz⟩ := kL.four
        have hT1w : w.heap.size ≤ wc.heap.size := Nat.le_trans hwV hT.size
        go_upto_region 13 with (first | (go_at_call 18; refine (zeros_all st z0 z1 EA i EC es _ HEL.out hE HCK.out HFIT.out).mono ?_; rintro er p1 ⟨⟨QA, QC, rfl, hQ⟩, hq1⟩) | fail)
        clear l0 l1 l2 l3 lf lz
        have hX1 := (Sl.below hX hq1).more hq1.size
        have kX1 := kX.call hq1
        obtain ⟨a0, a1, a2, a3, af, az⟩ := kX1.four
        obtain ⟨mf, hfm⟩ := fits_some st x0 x1 ex
        by_cases hmm : mf < m
        · go_upto_region 14 with (first | (go_at_call 18; refine (zeros_none st x0 x1 XA m XC ex _ hxl hX1 hkn.ck mf hfm hmm).mono ?_; rintro er p2 ⟨rfl, hq2⟩) | fail)
          go_wp2_with (first | (go_at_call 14; refine (awake_any _).mono ?_; rintro er x7 ⟨rfl, hq7⟩) | fail)
          go_ret
          exact ⟨rfl, (((hT.be hB0 hg0).trans (hq1.mono hT1w)).trans (hq2.mono (Nat.le_trans hT1w hq1.size))).trans (hq7.mono (Nat.le_trans (Nat.le_trans hT1w hq1.size) hq2.size))⟩
        · have hfm2 : Fits st x0 x1 ex m := by have := hfm.le; rw [hxl] at this; rw [show m = mf by omega]; exact hfm
          have HFM := Lib.hid hfm2
          clear hfm hmm hfm2
          go_upto_region 14 with (first | (go_at_call 18; refine (zeros_all st x0 x1 XA m XC ex _ hxl hX1 hkn.ck HFM.out).mono ?_; rintro er p2 ⟨⟨RA, RC, rfl, hR⟩, hq2⟩) | fail)
          clear a0 a1 a2 a3 af az
          have hq := hq1.trans (hq2.mono hq1.size)
          have hQ2 := (hQ.below hq2).more hq2.size
          have hT2 := hT.bel hq
          have kL2 := kL.call hq
          have kX2 := kX1.call hq2
          have hE2 := (Sl.below hE hq).more hq.size
          have hX2 := (Sl.below hX1 hq2).more hq2.size
          have hB2 := hT2.be hB0 hg0
          have hpart := zst_part (ckL_zero hkn.ck) (by rw [hxl]; exact HFM.out) hkn.nar hkn.lo hkn.hi
          have HPART := Lib.hid hpart
          have HKN := Lib.hid hkn
          have HXL := Lib.hid hxl
          clear hq1 hq2 hq hQ hE hX hX1 kX kX1 kL hT hoX hpart hkn hT1w hxl
          go_wp2_with fail
          have hdm : decide (m < i) = false := decide_eq_false (by omega)
          simp only [hdm]
          clear hdm
          go_loopw [12] (fun v12 wr => ∃ j : Nat, j ≤ i ∧ v12 = .int .i64 j ∧ Below p2.heap.size p2 wr) (fun v12 _ => i - (intOf v12).toNat)
          case atStart => exact ⟨0, by omega, rfl, Below.refl _ _⟩
          case round =>
            obtain ⟨j, hj, rfl, hB⟩ := hrel
            by_cases hji : j < i
            · obtain ⟨qa, rfl, hqa, q0, q1⟩ := zrows_at (hQ2.below hB) hji
              obtain ⟨ra, rfl, hra, r0, r1⟩ := zrows_at (hR.below hB) (i := j) (n := m) (by omega)
              have hjm : j < m := by omega
              have hdec := decide_eq_true (HPART.out j (by rw [HEL.out]; exact hji))
              obtain ⟨a, ha⟩ : ∃ a, (Go.Proofs.Ytgbogdckmfencaa.zst st z0 z1 es 0 j).1 = a := ⟨_, rfl⟩
              obtain ⟨b, hb⟩ : ∃ b, (Go.Proofs.Ytgbogdckmfencaa.zst st z0 z1 es 0 j).2 = b := ⟨_, rfl⟩
              obtain ⟨d, hd⟩ : ∃ d, (Go.Proofs.Ytgbogdckmfencaa.zst st x0 x1 ex 0 j).1 = d := ⟨_, rfl⟩
              obtain ⟨f, hf⟩ : ∃ f, (Go.Proofs.Ytgbogdckmfencaa.zst st x0 x1 ex 0 j).2 = f := ⟨_, rfl⟩
              rw [ha] at q0 hdec
              rw [hb] at q1 hdec
              rw [hd] at r0 hdec
              rw [hf] at r1 hdec
              have HDEC := Lib.hid hdec
              have HQ := Lib.hid (And.intro (And.intro q0 q1) (And.intro r0 r1))
              clear ha hb hd hf hdec q0 q1 r0 r1
              go_wp2_with fail
              refine AnyG.startC (by kernel_rfl) ?_
              refine AnyG.takeP (i := 0) (v := ?_) rfl (by kernel_rfl) (fun _ _ _ h => h) rfl ?_ ?_
              rotate_left
              · (intro w'; go_simp; try with_reducible rfl)
              try simp only [Act.put, List.getElem_toArray, List.getElem_cons_succ, List.getElem_cons_zero, List.setIfInBounds_toArray, List.set_cons_zero, List.set_cons_succ]
              refine AnyG.takeP (i := 1) (v := ?_) rfl (by kernel_rfl) (fun _ _ _ h => h) rfl ?_ ?_
              rotate_left
              · (intro w'; go_simp; try with_reducible rfl)
              try simp only [Act.put, List.getElem_toArray, List.getElem_cons_succ, List.getElem_cons_zero, List.setIfInBounds_toArray, List.set_cons_zero, List.set_cons_succ]
              refine AnyG.takeP (i := 2) (v := ?_) rfl (by kernel_rfl) (fun _ _ _ h => h) rfl ?_ ?_
              rotate_left
              · (intro w'; go_simp; try with_reducible rfl)
              try simp only [Act.put, List.getElem_toArray, List.getElem_cons_succ, List.getElem_cons_zero, List.setIfInBounds_toArray, List.set_cons_zero, List.set_cons_succ]
              refine AnyG.takeP (i := 4) (v := ?_) rfl (by kernel_rfl) (fun _ _ _ h => h) rfl ?_ ?_
              rotate_left
              · (intro w'; go_simp; try with_reducible rfl)
              try simp only [Act.put, List.getElem_toArray, List.getElem_cons_succ, List.getElem_cons_zero, List.setIfInBounds_toArray, List.set_cons_zero, List.set_cons_succ]
              refine AnyG.takeP (i := 5) (v := ?_) rfl (by kernel_rfl) (fun _ _ _ h => h) rfl ?_ ?_
              rotate_left
              · (intro w'; go_simp; try with_reducible rfl)
              try simp only [Act.put, List.getElem_toArray, List.getElem_cons_succ, List.getElem_cons_zero, List.setIfInBounds_toArray, List.set_cons_zero, List.set_cons_succ]
              refine AnyG.takeP (i := 6) (v := ?_) rfl (by kernel_rfl) (fun _ _ _ h => h) rfl ?_ ?_
              rotate_left
              · (intro w'; go_simp; try with_reducible rfl)
              try simp only [Act.put, List.getElem_toArray, List.getElem_cons_succ, List.getElem_cons_zero, List.setIfInBounds_toArray, List.set_cons_zero, List.set_cons_succ]
              refine AnyG.enter (fun w' : World => Below wr.heap.size wr w') (fun i => true) ?_
              have hS : (fun w' : World => Below wr.heap.size wr w') (World.drew _) := (Below.refl _ _).drew
              refine AnyG.takeC (i := 3) (v := ?_) rfl (by kernel_rfl) (fun _ _ _ h => h) rfl ?_ hS ?_
              rotate_left
              · (intro w' hSw; (try dsimp only at hSw); have r0 := (hSw.cell (p := ra.add (j * 2)) (by rw [add_block]; have := hB.size; omega)).trans HQ.out.2.1; have r1 := (hSw.cell (p := ⟨(ra.add (j * 2)).block, (ra.add (j * 2)).off + 1, none⟩) (by show (ra.add (j * 2)).block < _; rw [add_block]; have := hB.size; omega)).trans HQ.out.2.2; go_simp; try with_reducible rfl)
              try simp only [Act.put, List.getElem_toArray, List.getElem_cons_succ, List.getElem_cons_zero, List.setIfInBounds_toArray, List.set_cons_zero, List.set_cons_succ]
              refine AnyG.takeC (i := 7) (v := ?_) rfl (by kernel_rfl) (fun _ _ _ h => h) rfl ?_ hS ?_
              rotate_left
              · (intro w' hSw; (try dsimp only at hSw); have q0 := (hSw.cell (p := qa.add (j * 2)) (by rw [add_block]; have := hB.size; omega)).trans HQ.out.1.1; have q1 := (hSw.cell (p := ⟨(qa.add (j * 2)).block, (qa.add (j * 2)).off + 1, none⟩) (by show (qa.add (j * 2)).block < _; rw [add_block]; have := hB.size; omega)).trans HQ.out.1.2; go_simp; try with_reducible rfl)
              try simp only [Act.put, List.getElem_toArray, List.getElem_cons_succ, List.getElem_cons_zero, List.setIfInBounds_toArray, List.set_cons_zero, List.set_cons_succ]
              refine AnyG.one (i := 8) (by kernel_rfl) rfl rfl ?_
              go_simp
              refine (part_any _ _ _ _ _).mono ?_
              rintro er yy ⟨he, hr⟩
              rw [HDEC.out] at he
              subst he
              refine Onward.on (Below.trans hS (hr.mono hS.size)) (fun hS2 => ?_)
              clear hS
              have hS := hS2
              clear hS2
              try simp only [Act.put, List.getElem_toArray, List.getElem_cons_succ, List.getElem_cons_zero, List.setIfInBounds_toArray, List.set_cons_zero, List.set_cons_succ]
              refine AnyG.takeC (i := 9) (v := ?_) rfl (by kernel_rfl) (fun _ _ _ h => h) rfl ?_ hS ?_
              rotate_left
              · (intro w' hSw; (try dsimp only at hSw); go_simp; try with_reducible rfl)
              try simp only [Act.put, List.getElem_toArray, List.getElem_cons_succ, List.getElem_cons_zero, List.setIfInBounds_toArray, List.set_cons_zero, List.set_cons_succ]
              refine AnyG.done (by kernel_rfl) ?_ _
              go_simp
              go_wp2_with fail
              go_roundw
              case rel => exact ⟨j + 1, by omega, by go_num, hB.trans (hS.mono hB.size)⟩
              case measure => simp [intOf]; omega
            · obtain rfl : j = i := by omega
              have hT3 := hT2.bel hB
              have kL := kL2.call hB
              have kX := kX2.call hB
              have hE := (Sl.below hE2 hB).more hB.size
              have hX := (Sl.below hX2 hB).more hB.size
              have hB3 := hT3.be hB0 hg0
              clear hT2 kL2 kX2 hE2 hX2 hQ2 hR hB2 hB
              obtain ⟨l0, l1, l2, l3, lf, lz⟩ := kL.four
              go_upto_region 24 with (first | (go_at_call 26; refine (slipOf_any g st z0 z1 EA j EC es 3 _ hT3.2 HEL.out hk14 hE (by omega) (by omega)).mono ?_; rintro er U ⟨FA, fn, fc, BA, bn, bc, fs, bs, d0, d1, F, B, l, jj, rfl, hFn, hBn, hF, hBs, ⟨hfc, hbc⟩, hat, hsp, hfs, hbs, dr1, dr2, dr3, hfd, hgr⟩) | fail)
              clear l0 l1 l2 l3 lf lz
              have hEU := (Sl.ft hE hT3.2 hgr (evs_no _)).more hgr.size
              have hXU := (Sl.ft hX hT3.2 hgr (evs_no _)).more hgr.size
              have kLU := kL.grown hgr (by simpa using Ne.symm hgL)
              have kXU := kX.grown hgr (by simpa using Ne.symm hgM)
              have hBU : Below w.heap.size w U := hB3.grown hgr hB3.size (fun k e => by cases e; exact hg0)
              have HFN := Lib.hid hFn
              have HBN := Lib.hid hBn
              obtain ⟨ok, hok⟩ : ∃ b, (decide (0 < fn) && decide (0 < bn)) = b := ⟨_, rfl⟩
              rw [hok]
              have HOK := Lib.hid hok
              clear hok hE hX kL kX hgr hFn hBn hT3 hB3 hfd
              cases ok
              · go_wp2_with (first | (go_at_call 14; refine (awake_any _).mono ?_; rintro er x7 ⟨rfl, hq7⟩) | fail)
                go_ret
                exact ⟨rfl, (hBU.alloc hBU.size _).trans (hq7.mono (by have := hBU.size; simp; omega))⟩
              · have hok2 : 0 < fn ∧ 0 < bn := by simpa using HOK.out
                have hfn3 : fn ≤ 3 := by have := hsp.fl; rw [HFN.out] at this; omega
                have hbn3 : bn ≤ 3 := by have := hsp.bl; rw [HBN.out] at this; omega
                have hBY := hBU.alloc hBU.size (.cells #[.slice FA fn fc, .slice BA bn bc, .int .i64 fs, .int .i64 bs, .int .i64 d0, .int .i64 d1] 50)
                have kLY := kLU.alloc (.cells #[.slice FA fn fc, .slice BA bn bc, .int .i64 fs, .int .i64 bs, .int .i64 d0, .int .i64 d1] 50)
                have kXY := kXU.alloc (.cells #[.slice FA fn fc, .slice BA bn bc, .int .i64 fs, .int .i64 bs, .int .i64 d0, .int .i64 d1] 50)
                have kSY := Bx.new U 50 #[.slice FA fn fc, .slice BA bn bc, .int .i64 fs, .int .i64 bs, .int .i64 d0, .int .i64 d1]
                have hEY := (Sl.alloc hEU (Nat.le_refl _) (.cells #[.slice FA fn fc, .slice BA bn bc, .int .i64 fs, .int .i64 bs, .int .i64 d0, .int .i64 d1] 50)).more (B' := (World.alloc U (.cells #[.slice FA fn fc, .slice BA bn bc, .int .i64 fs, .int .i64 bs, .int .i64 d0, .int .i64 d1] 50)).heap.size) (by simp)
                have hXY := (Sl.alloc hXU (Nat.le_refl _) (.cells #[.slice FA fn fc, .slice BA bn bc, .int .i64 fs, .int .i64 bs, .int .i64 d0, .int .i64 d1] 50)).more (B' := (World.alloc U (.cells #[.slice FA fn fc, .slice BA bn bc, .int .i64 fs, .int .i64 bs, .int .i64 d0, .int .i64 d1] 50)).heap.size) (by simp)
                have hFY := (Sl.alloc hF (Nat.le_refl _) (.cells #[.slice FA fn fc, .slice BA bn bc, .int .i64 fs, .int .i64 bs, .int .i64 d0, .int .i64 d1] 50)).more (B' := (World.alloc U (.cells #[.slice FA fn fc, .slice BA bn bc, .int .i64 fs, .int .i64 bs, .int .i64 d0, .int .i64 d1] 50)).heap.size) (by simp)
                have hGY := (Sl.alloc hBs (Nat.le_refl _) (.cells #[.slice FA fn fc, .slice BA bn bc, .int .i64 fs, .int .i64 bs, .int .i64 d0, .int .i64 d1] 50)).more (B' := (World.alloc U (.cells #[.slice FA fn fc, .slice BA bn bc, .int .i64 fs, .int .i64 bs, .int .i64 d0, .int .i64 d1] 50)).heap.size) (by simp)
                obtain ⟨Y, hY⟩ : ∃ V, World.alloc U (.cells #[.slice FA fn fc, .slice BA bn bc, .int .i64 fs, .int .i64 bs, .int .i64 d0, .int .i64 d1] 50) = V := ⟨_, rfl⟩
                rw [hY] at hBY kLY kXY kSY hEY hXY hFY hGY ⊢
                obtain ⟨bS, hbS⟩ : ∃ b, U.heap.size = b := ⟨_, rfl⟩
                rw [hbS] at kSY ⊢
                clear hY hbS hBU kLU kXU hEU hXU hF hBs
                obtain ⟨N1, N2, P1, P2, net0, net1, hpp⟩ := more_nets st z0 z1 x0 x1 EA j EC XA m XC es ex FA fn fc BA bn bc fs bs d0 d1 F B l jj Y HKN.out HEL.out hk14 HXL.out HCK.out HFIT.out HFM.out hat hsp HFN.out HBN.out hok2.1 hok2.2 hfs hbs (by omega) dr2 (by omega) hEY hXY hFY hGY
                have HPP := Lib.hid (decide_eq_true hpp)
                have NET := Lib.hid (And.intro net0 net1)
                clear net0 net1 hpp hEY hXY hFY hGY hat hsp
                obtain ⟨l0, l1, l2, l3, lf, lz⟩ := kLY.four
                obtain ⟨s0, s1, s2, s3, s4, s5, sf, sz⟩ := kSY.six
                go_upto_region 27 with (first | (go_at_call 29; refine (NET.out.1 _ (Below.refl _ _)).mono ?_; rintro er y1 ⟨rfl, hq1⟩) | fail)
                clear l0 l1 l2 l3 lf lz s0 s1 s2 s3 s4 s5 sf sz
                have hA1 : Below Y.heap.size Y (y1.alloc (.cells #[.int .i64 N1, .int .i64 N2] 23)) := hq1.alloc hq1.size _
                have kN := Bx.new y1 23 #[.int .i64 N1, .int .i64 N2]
                obtain ⟨Y1, hY1⟩ : ∃ V, y1.alloc (.cells #[.int .i64 N1, .int .i64 N2] 23) = V := ⟨_, rfl⟩
                rw [hY1] at hA1 kN ⊢
                clear hY1 hq1
                obtain ⟨a0, a1, a2, a3, af, az⟩ := (kXY.call hA1).four
                obtain ⟨s0, s1, s2, s3, s4, s5, sf, sz⟩ := (kSY.call hA1).six
                go_upto_region 28 with (first | (go_at_call 29; refine (NET.out.2 _ hA1).mono ?_; rintro er y2 ⟨rfl, hq2⟩) | fail)
                clear a0 a1 a2 a3 af az s0 s1 s2 s3 s4 s5 sf sz
                have hA2 : Below Y.heap.size Y (y2.alloc (.cells #[.int .i64 P1, .int .i64 P2] 23)) := (hA1.trans (hq2.mono hA1.size)).alloc (by have := hA1.size; have := hq2.size; omega) _
                have kP := Bx.new y2 23 #[.int .i64 P1, .int .i64 P2]
                have kN2 := (kN.call hq2).alloc (.cells #[.int .i64 P1, .int .i64 P2] 23)
                obtain ⟨Y2, hY2⟩ : ∃ V, y2.alloc (.cells #[.int .i64 P1, .int .i64 P2] 23) = V := ⟨_, rfl⟩
                rw [hY2] at hA2 kP kN2 ⊢
                clear hY2 hq2 kN NET kXY kSY kLY
                obtain ⟨n0, n1, nf, nz⟩ := kN2.two
                obtain ⟨c0, c1, cf, cz⟩ := kP.two
                go_wp2_with (first
              | (go_at_call 50; refine (part_any _ _ _ _ _).mono ?_; rintro er y5 ⟨he5, hq5⟩; rw [HPP.out] at he5; subst he5)
              | (go_at_call 14; refine (awake_any _).mono ?_; rintro er y6 ⟨rfl, hq6⟩)
              | fail)
                go_ret
                have hE := hq5.trans (hq6.mono hq5.size)
                exact ⟨rfl, (hBY.trans (hA2.mono hBY.size)).trans (hE.mono (by have := hBY.size; have := hA2.size; omega))⟩
end Go.Proofs.Ytgbogdckmfencaa
