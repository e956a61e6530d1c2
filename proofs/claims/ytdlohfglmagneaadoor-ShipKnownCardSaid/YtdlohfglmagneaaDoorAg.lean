/- tilt. -/
import Derived.Test.YtdlohfglmagneaaDoorAe
set_option linter.unusedSimpArgs false
set_option linter.unusedVariables false
namespace Go.Proofs.YtdlohfglmagneaaDoor
open Go Go.RowKit Go.Shelf
attribute [local go_sem] Oper.semAt_some
theorem sum_bd2 {α : Type} (f : α → Int) (C : Int) : ∀ (L : List α), (∀ x ∈ L, -C ≤ f x ∧ f x ≤ C) → -(L.length * C) ≤ (L.map f).sum ∧ (L.map f).sum ≤ L.length * C
  | [], _ => by simp
  | x :: r, h => by
    have h1 := h x (by simp)
    have h2 := sum_bd2 f C r fun y hy => h y (by simp [hy])
    simp only [List.map_cons, List.sum_cons, List.length_cons]
    have : ((r.length + 1 : Nat) : Int) * C = r.length * C + C := by rw [Int.natCast_add, Int.add_mul]; simp
    omega
theorem tms_in {v : Vg} (ho : v.Ok) {s : List Int} (hh : Held v s) {x : Cg × Int} (hx : x ∈ abd v.ls s) :
    -50000000 ≤ (tms x.1.t0 x.1.t1 ((hd v.hs x.2).bw - (hd v.hs x.2).st)).1 ∧ (tms x.1.t0 x.1.t1 ((hd v.hs x.2).bw - (hd v.hs x.2).st)).1 ≤ 50000000 ∧ -50000000 ≤ (tms x.1.t0 x.1.t1 ((hd v.hs x.2).bw - (hd v.hs x.2).st)).2 ∧ (tms x.1.t0 x.1.t1 ((hd v.hs x.2).bw - (hd v.hs x.2).st)).2 ≤ 50000000 := by
  obtain ⟨k, e, hk, _⟩ := held_hd hh hx
  have o := hd_ok ho e hk
  have c := ho.ls _ (abd_mem hx).1
  have := o.bw; have := o.st; have := c.t0; have := c.t01; have := c.t1
  have b := tms_bd (x := x.1.t0) (y := x.1.t1) (n := (hd v.hs x.2).bw - (hd v.hs x.2).st) (by omega) (by omega) (by omega) (by omega) (by omega)
  unfold tms
  split
  · exact ⟨b.2.2.1, b.2.2.2, b.1, b.2.1⟩
  · exact ⟨b.1, b.2.1, b.2.2.1, b.2.2.2⟩
theorem tilt_bd {v : Vg} (ho : v.Ok) {s : List Int} (hh : Held v s) {L : List (Cg × Int)} (hL : ∀ x ∈ L, x ∈ abd v.ls s) (hl : L.length ≤ 6) : -300000000 ≤ (tiltP v.hs L).1 ∧ (tiltP v.hs L).1 ≤ 300000000 ∧ -300000000 ≤ (tiltP v.hs L).2 ∧ (tiltP v.hs L).2 ≤ 300000000 := by
  have a := sum_bd2 (fun p : Cg × Int => (tms p.1.t0 p.1.t1 ((hd v.hs p.2).bw - (hd v.hs p.2).st)).1) 50000000 L fun x hx => ⟨(tms_in ho hh (hL x hx)).1, (tms_in ho hh (hL x hx)).2.1⟩
  have b := sum_bd2 (fun p : Cg × Int => (tms p.1.t0 p.1.t1 ((hd v.hs p.2).bw - (hd v.hs p.2).st)).2) 50000000 L fun x hx => ⟨(tms_in ho hh (hL x hx)).2.2.1, (tms_in ho hh (hL x hx)).2.2.2⟩
  unfold tiltP
  have : (L.length : Int) ≤ 6 := by omega
  dsimp only
  omega
theorem tilt_snoc (hs : List Hd) (L : List (Cg × Int)) (x : Cg × Int) : tiltP hs (L ++ [x]) = ((tiltP hs L).1 + (tms x.1.t0 x.1.t1 ((hd hs x.2).bw - (hd hs x.2).st)).1, (tiltP hs L).2 + (tms x.1.t0 x.1.t1 ((hd hs x.2).bw - (hd hs x.2).st)).2) := by
  unfold tiltP
  rw [List.map_append, List.map_append, List.sum_append, List.sum_append]
  simp
set_option maxRecDepth 100000 in
set_option maxHeartbeats 4000000 in
theorem tilt_any (v : Vg) (p : Vp) (A : Option Addr) (sn sc : Nat) (s : List Int) (w : World) (ho : v.Ok) (hV : VoyAt w w.heap.size v p) (hS : Sl w w.heap.size 1 A (inr s)) (hl : s.length = sn) (hsn : sn ≤ p.ln) (hh : Held v s) :
    Calls Tryd.prog 22 #[.agg (vcs v p), .slice A sn sc] w fun e w' => e = .returned (.agg #[.int .i64 (tiltP v.hs (abd v.ls s)).1, .int .i64 (tiltP v.hs (abd v.ls s)).2]) ∧ Below w.heap.size w w' := by
  have h6 := ho.l6
  have hln6 : p.ln ≤ 6 := by rw [← hV.ll]; exact h6
  have k3 := ((Bx.at w 26 (vcs v p) rfl).alloc (.cells #[.int .i64 0, .int .i64 0] 29)).alloc (.cells #[.int .i64 0, .int .i64 0] 29)
  have k6 := (Bx.at (w.alloc (.cells (vcs v p) 26)) 29 #[.int .i64 0, .int .i64 0] (n := w.heap.size + 1) (by simp)).alloc (.cells #[.int .i64 0, .int .i64 0] 29)
  have k7 := Bx.at ((w.alloc (.cells (vcs v p) 26)).alloc (.cells #[.int .i64 0, .int .i64 0] 29)) 29 #[.int .i64 0, .int .i64 0] (n := w.heap.size + 1 + 1) (by simp)
  have B0 := (((Below.refl w.heap.size w).alloc (Nat.le_refl _) (.cells (vcs v p) 26)).alloc (by simp) (.cells #[.int .i64 0, .int .i64 0] 29)).alloc (by simp; omega) (.cells #[.int .i64 0, .int .i64 0] 29)
  rw [vcs_def] at k3 k6 k7 B0
  obtain ⟨V, hVV⟩ : ∃ V, ((w.alloc (.cells #[.int .i64 v.li, .int .i64 v.un, .int .i64 v.tr, .slice p.HA p.hn p.hc, .int .i64 v.le, .slice p.SA p.sn p.sc, .slice p.LA p.ln p.lc] 26)).alloc (.cells #[.int .i64 0, .int .i64 0] 29)).alloc (.cells #[.int .i64 0, .int .i64 0] 29) = V := ⟨_, rfl⟩
  rw [hVV] at k3 k6 k7 B0
  have HVV := Lib.hid hVV
  clear hVV
  refine (callsIn_wide (n := 5)).1 ?_
  refine callsIn_of_wp_marks Tryd.func22 rfl trivial ?_ rfl
  refine wpIn_wide.2 ?_
  simp only [vcs_def, Tryd.ntmps22, List.size_toArray, List.length_cons, List.length_nil, Nat.reduceAdd, Nat.reduceSub, Array.replicate_succ, Array.replicate_zero, List.push_toArray, List.append_toArray, List.nil_append, List.cons_append]
  go_wp2_with (first
    | (go_at_call 39; rw [HVV.out]; refine (aboard_any v p A sn sc V).mono ?_; rintro e w1 ⟨⟨gs, gv, rfl, kgs, kgv, hgs, hgv⟩, hb⟩)
    | fail)
  have h7 := k7.lt
  have k3' := k3.call hb
  have k6' := k6.call hb
  have k7' := k7.call hb
  have h71 := k7'.lt
  have k70 : Bx w1 (w.heap.size + 1 + 1) 29 #[.int .i64 (tiltP v.hs []).1, .int .i64 (tiltP v.hs []).2] := k7'
  have hB1 := B0.trans (hb.mono (by omega))
  have hV1 := hV.below hB1
  have hS1 := hS.below hB1
  clear k3 k6 k7 B0 hV hS hb HVV
  refine (wpIn_wide (n := 5)).1 ?_
  refine range_ab (n := 5) (by omega) (w.heap.size + 1 + 1) 29 gs gv w.heap.size v p A sn sc s rfl kgs kgv hV1 hS1 (by omega) (by omega) (by omega) (by omega) hsn hl (fun L => #[.int .i64 (tiltP v.hs L).1, .int .i64 (tiltP v.hs L).2]) k70 rfl (fun _ _ => False) (fun _ _ _ _ hs _ _ => hs) ?Fr ?assign ?body ?done ?stop
  case assign =>
    rintro l x W K hK
    obtain ⟨b8, hb8⟩ : ∃ b, W.heap.size = b := ⟨_, rfl⟩
    dsimp only [cgv]
    gi_wp2
    exact hK b8 _ hb8 ((Below.refl _ _).alloc (Nat.le_refl _) _) (Bx.at W 53 _ hb8.symm)
  case body =>
    rintro l pre x b8 W hl ⟨r, hr⟩ hgr k7 h8 hx hlen
    obtain ⟨kk, hxk, hkk, hget⟩ := held_hd hh x.2
    have hHs := (KeepC.grown hgr).sl hV1.hs (by omega)
    obtain ⟨ad, hHA, hadb, z0, z1, z2⟩ := hd_at hHs hkk
    rw [hget hkk] at z0 z1 z2
    have kv := k3'.grown hgr (by simp <;> omega)
    rw [hHA] at kv
    have hLm : ∀ y ∈ pre.map (·.1) ++ [x.1], y ∈ abd v.ls s := by
      intro y hy
      rcases List.mem_append.1 hy with hy | hy
      · obtain ⟨q, _, rfl⟩ := List.mem_map.1 hy; exact q.2
      · obtain rfl := List.mem_singleton.1 hy; exact x.2
    have hN := abd_six ho s
    have hbd0 := tilt_bd ho hh (L := pre.map (·.1)) (fun y hy => hLm y (by simp at hy ⊢; exact .inl hy)) (by simp; omega)
    have htm := tms_in ho hh x.2
    have hok := hd_ok ho hxk hkk
    have hcg := ho.ls _ (abd_mem x.2).1
    have HG : Hid (tiltP v.hs ((pre ++ [x]).map (·.1)) = ((tiltP v.hs (pre.map (·.1))).1 + (tms x.1.1.t0 x.1.1.t1 ((hd v.hs x.1.2).bw - (hd v.hs x.1.2).st)).1, (tiltP v.hs (pre.map (·.1))).2 + (tms x.1.1.t0 x.1.1.t1 ((hd v.hs x.1.2).bw - (hd v.hs x.1.2).st)).2)) := Lib.hid (by rw [List.map_append]; exact tilt_snoc _ _ _)
    obtain ⟨P, hP⟩ : ∃ P, (tiltP v.hs (pre.map (·.1))).1 = P := ⟨_, rfl⟩
    obtain ⟨R, hR⟩ : ∃ P, (tiltP v.hs (pre.map (·.1))).2 = P := ⟨_, rfl⟩
    obtain ⟨H, hH⟩ : ∃ P, hd v.hs x.1.2 = P := ⟨_, rfl⟩
    rw [hH] at htm hok HG z0 z1 z2
    obtain ⟨T, hT⟩ : ∃ P, tms x.1.1.t0 x.1.1.t1 (H.bw - H.st) = P := ⟨_, rfl⟩
    rw [hT] at htm HG
    obtain ⟨T1, T2⟩ := T
    rw [hP, hR] at k7 hbd0 HG
    dsimp only at htm HG
    have HT := Lib.hid hT
    rw [HG.out, hxk]
    have hb1 := hok.bw; have hb2 := hok.st; have hc1 := hcg.t0; have hc2 := hcg.t01; have hc3 := hcg.t1
    have hlW := (Array.getElem?_eq_some_iff.1 hr).1
    have hkn : kk < p.hn := by rw [← hV1.hl]; exact hkk
    have hab : (ad.add (kk * 3)).block < w.heap.size := by rw [add_block]; exact hadb
    have w1' : IntKind.i64.wrap (H.bw - H.st) = H.bw - H.st := IntWalk.i64_in _ (by omega)
    clear hxk hget hHs hLm hP hR hT hH HG hr hok hcg
    obtain ⟨o0, o1, o2, of, oz⟩ := Bx.three' hx
    obtain ⟨v0, v1, v2, v3, v4, v5, v6, vf, vz⟩ := kv.seven
    refine wpIn_block ?_
    gi_wp2_with fail
    obtain ⟨b9, hb9⟩ : ∃ b, W.heap.size = b := ⟨_, rfl⟩
    obtain ⟨U, hU⟩ : ∃ X, W.alloc (.cells #[.int .i64 H.rm, .int .i64 H.bw, .int .i64 H.st] 51) = X := ⟨_, rfl⟩
    have kh := Bx.at W 51 #[.int .i64 H.rm, .int .i64 H.bw, .int .i64 H.st] hb9.symm
    have k71 := k7.alloc (.cells #[.int .i64 H.rm, .int .i64 H.bw, .int .i64 H.st] 51)
    have hx1 := hx.alloc (.cells #[.int .i64 H.rm, .int .i64 H.bw, .int .i64 H.st] 51)
    have gU : W.grownBy U (some (w.heap.size + 1 + 1)) := by rw [← hU]; exact grown_alloc (grown_refl _ _) _
    rw [hU] at kh k71 hx1
    have h7W := k7.lt
    have hUs := kh.lt
    rw [hU, hb9]
    clear o0 o1 o2 of oz v0 v1 v2 v3 v4 v5 v6 vf vz hU hb9
    refine AnyG.startCIn (by kernel_rfl) (by kernel_rfl) (fun _ _ h => h) ?_
    refine AnyG.takeP (i := 1) (v := ?_) rfl (by kernel_rfl) (fun _ _ _ h => h) rfl ?_ ?_
    rotate_left
    · (intro w'; go_simp; try with_reducible rfl)
    try simp only [Act.put, List.getElem_toArray, List.getElem_cons_succ, List.getElem_cons_zero, List.setIfInBounds_toArray, List.set_cons_zero, List.set_cons_succ]
    refine AnyG.takeP (i := 3) (v := ?_) rfl (by kernel_rfl) (fun _ _ _ h => h) rfl ?_ ?_
    rotate_left
    · (intro w'; go_simp; try with_reducible rfl)
    try simp only [Act.put, List.getElem_toArray, List.getElem_cons_succ, List.getElem_cons_zero, List.setIfInBounds_toArray, List.set_cons_zero, List.set_cons_succ]
    refine AnyG.takeP (i := 5) (v := ?_) rfl (by kernel_rfl) (fun _ _ _ h => h) rfl ?_ ?_
    rotate_left
    · (intro w'; go_simp; try with_reducible rfl)
    try simp only [Act.put, List.getElem_toArray, List.getElem_cons_succ, List.getElem_cons_zero, List.setIfInBounds_toArray, List.set_cons_zero, List.set_cons_succ]
    refine AnyG.enter (fun w' : World => Bx w' (w.heap.size + 1 + 1) 29 #[.int .i64 P, .int .i64 R] ∧ Bx w' b8 53 (cgc x.1.1) ∧ Bx w' b9 51 #[.int .i64 H.rm, .int .i64 H.bw, .int .i64 H.st] ∧ Below U.heap.size U w') (fun i => i != 10) ?_
    have hS : (fun w' : World => Bx w' (w.heap.size + 1 + 1) 29 #[.int .i64 P, .int .i64 R] ∧ Bx w' b8 53 (cgc x.1.1) ∧ Bx w' b9 51 #[.int .i64 H.rm, .int .i64 H.bw, .int .i64 H.st] ∧ Below U.heap.size U w') (World.drew _) := ⟨k71.drew, hx1.drew, kh.drew, (Below.refl _ _).drew⟩
    refine AnyG.takeC (i := 0) (v := ?_) rfl (by kernel_rfl) (fun _ _ _ h => h) rfl ?_ hS ?_
    rotate_left
    · (intro w' hSw; (try dsimp only at hSw); obtain ⟨y0, y1, yf, yz⟩ := hSw.1.two; go_simp; try with_reducible rfl)
    try simp only [Act.put, List.getElem_toArray, List.getElem_cons_succ, List.getElem_cons_zero, List.setIfInBounds_toArray, List.set_cons_zero, List.set_cons_succ]
    refine AnyG.takeC (i := 2) (v := ?_) rfl (by kernel_rfl) (fun _ _ _ h => h) rfl ?_ hS ?_
    rotate_left
    · (intro w' hSw; (try dsimp only at hSw); obtain ⟨o0, o1, o2, of, oz⟩ := Bx.three' hSw.2.1; go_simp; try with_reducible rfl)
    try simp only [Act.put, List.getElem_toArray, List.getElem_cons_succ, List.getElem_cons_zero, List.setIfInBounds_toArray, List.set_cons_zero, List.set_cons_succ]
    refine AnyG.takeC (i := 4) (v := ?_) rfl (by kernel_rfl) (fun _ _ _ h => h) rfl ?_ hS ?_
    rotate_left
    · (intro w' hSw; (try dsimp only at hSw); obtain ⟨g0, g1, g2, gf, gz⟩ := Bx.three' hSw.2.2.1; go_simp; try with_reducible rfl)
    try simp only [Act.put, List.getElem_toArray, List.getElem_cons_succ, List.getElem_cons_zero, List.setIfInBounds_toArray, List.set_cons_zero, List.set_cons_succ]
    refine AnyG.takeC (i := 6) (v := ?_) rfl (by kernel_rfl) (fun _ _ _ h => h) rfl ?_ hS ?_
    rotate_left
    · (intro w' hSw; (try dsimp only at hSw); obtain ⟨g0, g1, g2, gf, gz⟩ := Bx.three' hSw.2.2.1; go_simp; try with_reducible rfl)
    try simp only [Act.put, List.getElem_toArray, List.getElem_cons_succ, List.getElem_cons_zero, List.setIfInBounds_toArray, List.set_cons_zero, List.set_cons_succ]
    refine AnyG.takeC (i := 7) (v := ?_) rfl (by kernel_rfl) (fun _ _ _ h => h) rfl ?_ hS ?_
    rotate_left
    · (intro w' hSw; (try dsimp only at hSw); go_simp; try with_reducible rfl)
    try simp only [Act.put, List.getElem_toArray, List.getElem_cons_succ, List.getElem_cons_zero, List.setIfInBounds_toArray, List.set_cons_zero, List.set_cons_succ]
    refine AnyG.one (i := 8) (by kernel_rfl) rfl rfl ?_
    go_simp
    refine (times_any x.1.1.t0 x.1.1.t1 (H.bw - H.st) _ (by omega) (by omega) (by omega) (by omega) (by omega)).mono ?_
    rintro e8 y8 ⟨rfl, hb8⟩
    rw [HT.out]
    refine Onward.on ⟨hS.1.call hb8, hS.2.1.call hb8, hS.2.2.1.call hb8, hS.2.2.2.trans (hb8.mono hS.2.2.2.size)⟩ (fun hS2 => ?_)
    clear hS
    have hS := hS2
    clear hS2
    try simp only [Act.put, List.getElem_toArray, List.getElem_cons_succ, List.getElem_cons_zero, List.setIfInBounds_toArray, List.set_cons_zero, List.set_cons_succ]
    refine AnyG.one (i := 9) (by kernel_rfl) rfl rfl ?_
    go_simp
    refine (plus_any P R T1 T2 _ (by omega) (by omega) (by omega) (by omega) (by omega) (by omega) (by omega) (by omega)).mono ?_
    rintro e9 y9 ⟨rfl, hb9⟩
    refine Onward.on ⟨hS.1.call hb9, hS.2.1.call hb9, hS.2.2.1.call hb9, hS.2.2.2.trans (hb9.mono hS.2.2.2.size)⟩ (fun hS2 => ?_)
    clear hS
    have hS := hS2
    clear hS2
    try simp only [Act.put, List.getElem_toArray, List.getElem_cons_succ, List.getElem_cons_zero, List.setIfInBounds_toArray, List.set_cons_zero, List.set_cons_succ]
    refine AnyG.one (i := 10) (by kernel_rfl) rfl rfl ?_
    obtain ⟨y0, y1, yf, yz⟩ := hS.1.two
    have hE := hS
    go_simp
    refine Onward.last rfl ?_
    try simp only [Act.put, List.getElem_toArray, List.getElem_cons_succ, List.getElem_cons_zero, List.setIfInBounds_toArray, List.set_cons_zero, List.set_cons_succ]
    refine AnyG.done (by kernel_rfl) ?_ _
    clear hS
    gi_wp2_with fail
    have gE := grownF_trans gU (grown_below (row := some (w.heap.size + 1 + 1)) hE.2.2.2)
    refine ⟨grownF_trans gE (grownF_trans (grown_set _ _ 0 _) (grown_set _ _ 1 _)), ?_⟩
    exact (hE.1.set_ 0 _).set_ 1 _
  case done =>
    rintro D W hD hgr k7 hKD
    obtain ⟨P, hP⟩ : ∃ P, (tiltP v.hs (abd v.ls s)).1 = P := ⟨_, rfl⟩
    obtain ⟨R, hR⟩ : ∃ P, (tiltP v.hs (abd v.ls s)).2 = P := ⟨_, rfl⟩
    rw [hP, hR] at k7
    have HP := Lib.hid hP
    have HR := Lib.hid hR
    have k6 := k6'.grown hgr (by simp <;> omega)
    have HKD := Lib.hid hKD
    have hBW : Below w.heap.size w W := hB1.grown hgr hB1.size (fun k e => by cases e; omega)
    clear hKD hP hR
    obtain ⟨t0, t1, tf, tz⟩ := k7.two
    obtain ⟨r0, r1, rf, rz⟩ := k6.two
    go_wp2
    have hDb : w.heap.size + 1 ≠ D := by omega
    refine leavesM_marks (B := w.heap.size) _ _ ⟨[D], rfl, by simp, fun D' hD' => ?_⟩ ?_
    · obtain rfl : D' = D := by simpa using hD'
      exact ⟨by omega, (Below.heap_setCell _ _ _ _ (Ne.symm hDb)).trans ((Below.heap_setCell _ _ _ _ (Ne.symm hDb)).trans HKD.out)⟩
    · intro W' hb hk _
      have bz : Bx W' (w.heap.size + 1) 29 #[.int .i64 P, .int .i64 R] := (hk _ (by simp; omega)).trans ((k6.set_ 0 _).set_ 1 _)
      obtain ⟨z0, z1, zf, zz⟩ := bz.two
      refine ⟨.agg #[.int .i64 P, .int .i64 R], by simp [results, Tryd.results22, go_sem, z0, z1], by rw [HP.out, HR.out], ?_⟩
      exact ((hBW.setCell (p := ⟨w.heap.size + 1, 0, none⟩) (by simp <;> omega) _).setCell (p := ⟨w.heap.size + 1, 1, none⟩) (by simp <;> omega) _).trans hb
  case stop =>
    rintro D pre W _ _ h _
    exact h.elim
end Go.Proofs.YtdlohfglmagneaaDoor
