/- Best. -/
import Derived.Test.YtdlohfglmagneaaDoorTd
set_option linter.unusedSimpArgs false
set_option linter.unusedVariables false
namespace Go.Proofs.YtdlohfglmagneaaDoor
open Go Go.RowKit Go.Shelf
attribute [local go_sem] Oper.semAt_some
/-- What Best returns of a voyage that is valid. -/
def BestPost (w : World) (n : Nat) (wo : List Int → Int) (r : Option (List Int)) (e : Ending) (w' : World) : Prop := match r with
  | none => e = .returned (.tuple #[.slice none 0 0, .int .i64 (-1), .int .i64 0])
  | some s => ∃ A c, e = .returned (.tuple #[.slice (some A) n c, .int .i64 (wo s), .int .i64 0]) ∧ w'.ownsRow w.heap.size 3 1 (.slice (some A) n c) n (inr s).flatten
set_option maxRecDepth 100000 in
set_option maxHeartbeats 8000000 in
theorem best_any (v : Vg) (p : Vp) (w : World) (hF : p.Fit) (hLF : LvFit v) (hV : VoyAt w w.heap.size v p) :
    Calls Tryd.prog 13 #[.agg (vcs v p)] w fun e w' => (if ckV v = 0 then BestPost w p.ln (woB v) (bestM v) e w' else e = .returned (.tuple #[.slice none 0 0, .int .i64 0, .int .i64 (ckV v)])) ∧ Below w.heap.size w w' := by
  have k0 := Bx.new w 26 (vcs v p)
  have B0 := (Below.refl w.heap.size w).alloc (Nat.le_refl _) (.cells (vcs v p) 26)
  obtain ⟨E, hE⟩ : ∃ E, ckV v = E := ⟨_, rfl⟩
  have HE := Lib.hid hE
  rw [hE]
  by_cases hz : E = 0
  case neg =>
    have hz1 : (E != 0) = true := by simpa using hz
    rw [vcs_def] at k0 B0 ⊢
    obtain ⟨V, hVV⟩ : ∃ V, w.alloc (.cells #[.int .i64 v.li, .int .i64 v.un, .int .i64 v.tr, .slice p.HA p.hn p.hc, .int .i64 v.le, .slice p.SA p.sn p.sc, .slice p.LA p.ln p.lc] 26) = V := ⟨_, rfl⟩
    rw [hVV] at k0 B0
    have HVV := Lib.hid hVV
    clear hVV
    obtain ⟨c0, c1, c2, c3, c4, c5, c6, cf, cz⟩ := k0.seven
    simp only [if_neg hz]
    clear hE
    go_enter Tryd.func13, Tryd.ntmps13
    go_wp2_with (first
      | (go_at_call 7; rw [HVV.out]; refine (check_any v p V hF hLF (hV.call B0)).mono ?_; rintro e w_1 ⟨rfl, hb_1⟩; rw [HE.out]; have B_1 := B0.trans (hb_1.mono B0.size))
      | fail)
    exact bodyPost_ret (v := .tuple #[.slice none 0 0, .int .i64 0, .int .i64 E]) (by simp [results, Tryd.results13, go_sem]) rfl ⟨rfl, B_1⟩
  subst hz
  have ho := ckV_ok hE
  simp only [if_pos (rfl : (0 : Int) = 0)]
  have h6 := ho.l6
  have h3 := ho.h3
  have h1 := ho.h1
  have hln6 : p.ln ≤ 6 := by rw [← hV.ll]; exact h6
  have hhn3 : p.hn ≤ 3 := by rw [← hV.hl]; exact h3
  have hhn1 : 1 ≤ p.hn := by rw [← hV.hl]; exact h1
  have hnil : Held v [] := fun x hx => by simp [abd] at hx
  have hdb := deep_bd ho hnil false (fun x hx => hx) (abd_six ho [])
  obtain ⟨e0, he0⟩ : ∃ x, deepB v (abd v.ls []) false = x := ⟨_, rfl⟩
  obtain ⟨e1, he1⟩ : ∃ x, deepS v (abd v.ls []) false = x := ⟨_, rfl⟩
  rw [he0, he1] at hdb
  have HE0 := Lib.hid he0
  have HE1 := Lib.hid he1
  have HDB := Lib.hid hdb
  have HVo := Lib.hid hV
  have HR : Hid (bestM v = bst (okB v) (woB v) (allS ((p.hn : Int) - 1) p.ln)) := Lib.hid (by rw [bestM_eq, hV.hl, hV.ll])
  rw [HR.out]
  clear hE he0 he1 hdb hV h6 h3 h1
  rw [vcs_def] at k0 B0
  obtain ⟨V, hVV⟩ : ∃ V, w.alloc (.cells #[.int .i64 v.li, .int .i64 v.un, .int .i64 v.tr, .slice p.HA p.hn p.hc, .int .i64 v.le, .slice p.SA p.sn p.sc, .slice p.LA p.ln p.lc] 26) = V := ⟨_, rfl⟩
  rw [hVV] at k0 B0
  have HVV := Lib.hid hVV
  clear hVV
  obtain ⟨c0, c1, c2, c3, c4, c5, c6, cf, cz⟩ := k0.seven
  refine (callsIn_wide (n := 5)).1 ?_
  refine callsIn_of_wp_marks Tryd.func13 rfl trivial ?_ rfl
  refine wpIn_wide.2 ?_
  simp only [vcs_def, Tryd.ntmps13, List.size_toArray, List.length_cons, List.length_nil, Nat.reduceAdd, Nat.reduceSub, Array.replicate_succ, Array.replicate_zero, List.push_toArray, List.append_toArray, List.nil_append, List.cons_append]
  go_wp2_with (first
    | (go_at_call 7; rw [HVV.out]; refine (check_any v p V hF hLF (HVo.out.call B0)).mono ?_; rintro e w_1 ⟨rfl, hb_1⟩; rw [HE.out]; have k_1 := (k0.call hb_1).alloc (.cells #[.slice none 0 0, .int .i64 (-1)] 79); have B_1 := (B0.trans (hb_1.mono B0.size)).alloc (B0.trans (hb_1.mono B0.size)).size (.cells #[.slice none 0 0, .int .i64 (-1)] 79); have q6 := Bx.new w_1 79 #[.slice none 0 0, .int .i64 (-1)]; clear c0 c1 c2 c3 c4 c5 c6 cf cz; obtain ⟨c0, c1, c2, c3, c4, c5, c6, cf, cz⟩ := k_1.seven)
    | (go_at_call 24; refine (load_any v p none 0 0 [] false _ ho (HVo.out.call B_1) (Sl.nil _ _ _ _) rfl (by omega) hnil).mono ?_; rintro e w_2 ⟨rfl, hb_2⟩; rw [HE0.out, HE1.out]; have k_2 := k_1.call hb_2; have B_2 := B_1.trans (hb_2.mono B_1.size); have q62 := q6.call hb_2)
    | (go_at_call 30; refine (trialOf_any v p e0 e1 _ ho (HVo.out.call B_2) ⟨HDB.out.1, HDB.out.2.1⟩ HDB.out.2.2).mono ?_; rintro e w_3 ⟨rfl, hb_3⟩; rw [show trl v e0 e1 = #[Value.int .i64 e0, .int .i64 e1, .bool (pasD v e0 e1)] from rfl]; have k_3 := (k_2.call hb_3).alloc (.cells #[.int .i64 e0, .int .i64 e1, .bool (pasD v e0 e1)] 81); have B_3 := (B_2.trans (hb_3.mono B_2.size)).alloc (B_2.trans (hb_3.mono B_2.size)).size (.cells #[.int .i64 e0, .int .i64 e1, .bool (pasD v e0 e1)] 81); have q63 := (q62.call hb_3).alloc (.cells #[.int .i64 e0, .int .i64 e1, .bool (pasD v e0 e1)] 81); have q7 := Bx.new w_3 81 #[.int .i64 e0, .int .i64 e1, .bool (pasD v e0 e1)]; clear c0 c1 c2 c3 c4 c5 c6 cf cz; obtain ⟨c0, c1, c2, c3, c4, c5, c6, cf, cz⟩ := k_3.seven)
    | (go_at_call 31; refine (stowages_any v p _).mono ?_; rintro e w_4 ⟨⟨gv, rfl, kgv, hgv⟩, hb_4⟩)
    | fail)
  have hs1 := B_1.size
  have hs2 := hb_2.size
  have hs3 := hb_3.size
  have hs4' := hb_4.size
  simp only [World.size_alloc] at hs1 hs2 hs4' hgv
  have hw1 : w.heap.size + 1 ≤ w_1.heap.size := by
    have := k0.lt
    have := hb_1.size
    omega
  have kV := k_3.call hb_4
  have q6 := q63.call hb_4
  have q7 := q7.call hb_4
  have B_4 := B_3.trans (hb_4.mono B_3.size)
  have hV4 : VoyAt w_4 w.heap.size v p := HVo.out.below B_4
  clear k_1 B_1 hb_2 k_2 B_2 q62 hb_3 k_3 B_3 q63 c0 c1 c2 c3 c4 c5 c6 cf cz hb_4 k0 B0 hb_1 HVV HE
  obtain ⟨b6, hb6⟩ : ∃ x, w_1.heap.size = x := ⟨_, rfl⟩
  obtain ⟨b7, hb7⟩ : ∃ x, w_3.heap.size = x := ⟨_, rfl⟩
  rw [hb6] at q6 hw1 hs2 ⊢
  rw [hb7] at q7 hgv hs3 hs4' ⊢
  have g6 : w.heap.size ≤ b6 := by omega
  have g7 : w.heap.size ≤ b7 := by omega
  have g67 : b6 ≠ b7 := by omega
  have f6 : b6 < w_4.heap.size := by omega
  have f7 : b7 < w_4.heap.size := by omega
  have gw : w.heap.size ≤ w_4.heap.size := by omega
  have r6 : w.heap.size ≠ b6 := by omega
  have r7 : w.heap.size ≠ b7 := by omega
  have r36 : gv ≠ b6 := by omega
  have r37 : gv ≠ b7 := by omega
  clear hs1 hs2 hs3 hs4' hw1 hgv hb6 hb7
  refine (wpIn_wide (n := 5)).1 ?_
  refine range_rd (F := Fence.wide) rfl (by omega) (gf := 48) (lb := #[.pointer (some ⟨gv, 0, none⟩)]) rfl trivial (enters_of Tryd.func48 (by kernel_rfl) rfl) (encs := fun x : StT => #[.slice (some x.A) p.ln x.c])
    (stow_in 4 (by omega) gv b6 b7 v p w_4 kgv r36 r37 f6 f7 hln6 hhn1 hhn3) Keep2.trans (fun W l o o' _ h ho => Keep2.put W l o o' h ho) (Below.refl _ _) (fun _ => rfl)
    (fun x W l o o' h ho hr => ⟨hr.1, own_put hr.2 o' h ho⟩) (BestI v p w.heap.size b6 b7 w_4) (bestI_abb gw) (bestI_put gw) ⟨⟨none, 0, 0, -1, q6, rfl, rfl, rfl, rfl⟩, ⟨e0, e1, q7⟩, Keep2.refl _ _ _, Below.refl _ _⟩ ?Fr ?assign ?body ?done
  case assign =>
    rintro l x W K hK
    gi_wp2
    exact hK
  case body =>
    clear q6 q7
    rintro l pre x W hl ⟨r, hr⟩ ⟨⟨X, m, c, a, q6, hP⟩, ⟨d0, d1, q7⟩, hK, hB⟩ ⟨hxm, hxo⟩ hlen
    have hWs : w.heap.size ≤ W.heap.size := Nat.le_trans gw hK.size
    have kv := hK.bx kV r6 r7
    have hVW := hK.voy hV4 g6 g7
    obtain ⟨hxl, hxh⟩ : x.s.length = p.ln ∧ Held v x.s := held_of (by rw [hV4.hl]; exact hhn1) (by rw [hV4.hl]; exact hxm)
    have HLN := Lib.hid hxl
    have HH := Lib.hid hxh
    have HV : Hid (∀ y, K3 w.heap.size w_4.heap.size b6 b7 W y → VoyAt y y.heap.size v p) := Lib.hid (fun y k => (k.k2.voy hVW g6 g7).more (Nat.le_trans hWs k.k2.size))
    have HX : Hid (∀ y, K3 w.heap.size w_4.heap.size b6 b7 W y → Sl y y.heap.size 1 (some x.A) (inr x.s)) := Lib.hid (fun y k => own_inr (k.k2.own hxo f6 f7) hxl)
    clear hVW hxl
    refine wpIn_block ?_
    obtain ⟨rm, hrm⟩ : ∃ b, roomOk v.hs (abd v.ls x.s) = b := ⟨_, rfl⟩
    have HRM := Lib.hid hrm
    cases rm
    · have HOK : Hid (okB v x.s = false) := Lib.hid (by unfold okB; rw [hrm]; rfl)
      clear hrm
      gi_wp2_with fail
      refine AnyG.startCIn (by kernel_rfl) (by kernel_rfl) (fun _ _ h => by cases (And.left h : (Exit.outgrown = Exit.normal))) ?_
      refine AnyG.takeP (i := 1) (v := ?_) rfl (by kernel_rfl) (fun _ _ _ h => h) rfl ?_ ?_
      rotate_left
      · (intro w'; go_simp; try with_reducible rfl)
      try simp only [Act.put, List.getElem_toArray, List.getElem_cons_succ, List.getElem_cons_zero, List.setIfInBounds_toArray, List.set_cons_zero, List.set_cons_succ]
      refine AnyG.enter (fun w' : World => Bx w' w.heap.size 26 #[.int .i64 v.li, .int .i64 v.un, .int .i64 v.tr, .slice p.HA p.hn p.hc, .int .i64 v.le, .slice p.SA p.sn p.sc, .slice p.LA p.ln p.lc] ∧ Below W.heap.size W w') (fun i => true) ?_
      have hS : (fun w' : World => Bx w' w.heap.size 26 #[.int .i64 v.li, .int .i64 v.un, .int .i64 v.tr, .slice p.HA p.hn p.hc, .int .i64 v.le, .slice p.SA p.sn p.sc, .slice p.LA p.ln p.lc] ∧ Below W.heap.size W w') (World.drew _) := ⟨kv.drew, (Below.refl _ _).drew⟩
      refine AnyG.takeC (i := 0) (v := ?_) rfl (by kernel_rfl) (fun _ _ _ h => h) rfl ?_ hS ?_
      rotate_left
      · (intro w' hSw; (try dsimp only at hSw); obtain ⟨x0, x1, x2, x3, x4, x5, x6, xf, xz⟩ := hSw.1.seven; go_simp; try with_reducible rfl)
      try simp only [Act.put, List.getElem_toArray, List.getElem_cons_succ, List.getElem_cons_zero, List.setIfInBounds_toArray, List.set_cons_zero, List.set_cons_succ]
      refine AnyG.one (i := 2) (by kernel_rfl) rfl rfl ?_
      go_simp
      refine (isRoomFor_any v p (some x.A) p.ln x.c x.s _ ho (HV.out _ ((K3.refl _ _ _ _ _).call hWs hS.2)) (HX.out _ ((K3.refl _ _ _ _ _).call hWs hS.2)) HLN.out (Nat.le_refl _) HH.out).mono ?_
      rintro e6 y6 ⟨rfl, hb6⟩
      rw [HRM.out]
      refine Onward.on ⟨hS.1.call hb6, hS.2.trans (hb6.mono hS.2.size)⟩ (fun hS2 => ?_)
      clear hS
      have hS := hS2
      clear hS2
      try simp only [Act.put, List.getElem_toArray, List.getElem_cons_succ, List.getElem_cons_zero, List.setIfInBounds_toArray, List.set_cons_zero, List.set_cons_succ]
      refine AnyG.takeC (i := 3) (v := ?_) rfl (by kernel_rfl) (fun _ _ _ h => h) rfl ?_ hS ?_
      rotate_left
      · (intro w' hSw; (try dsimp only at hSw); go_simp; try with_reducible rfl)
      try simp only [Act.put, List.getElem_toArray, List.getElem_cons_succ, List.getElem_cons_zero, List.setIfInBounds_toArray, List.set_cons_zero, List.set_cons_succ]
      refine AnyG.takeC (i := 4) (v := ?_) rfl (by kernel_rfl) (fun _ _ _ h => h) rfl ?_ hS ?_
      rotate_left
      · (intro w' hSw; (try dsimp only at hSw); go_simp; try with_reducible rfl)
      try simp only [Act.put, List.getElem_toArray, List.getElem_cons_succ, List.getElem_cons_zero, List.setIfInBounds_toArray, List.set_cons_zero, List.set_cons_succ]
      refine AnyG.takeNC (i := 5) rfl (by kernel_rfl) (fun _ _ _ h => h) (by first | (simp [Region.wanted, yielded]; done) | simp [Region.wanted, yielded, undef]) hS ?_
      try simp only [Act.put, List.getElem_toArray, List.getElem_cons_succ, List.getElem_cons_zero, List.setIfInBounds_toArray, List.set_cons_zero, List.set_cons_succ]
      refine AnyG.takeNC (i := 6) rfl (by kernel_rfl) (fun _ _ _ h => h) (by first | (simp [Region.wanted, yielded]; done) | simp [Region.wanted, yielded, undef]) hS ?_
      try simp only [Act.put, List.getElem_toArray, List.getElem_cons_succ, List.getElem_cons_zero, List.setIfInBounds_toArray, List.set_cons_zero, List.set_cons_succ]
      refine AnyG.takeNC (i := 7) rfl (by kernel_rfl) (fun _ _ _ h => h) (by first | (simp [Region.wanted, yielded]; done) | simp [Region.wanted, yielded, undef]) hS ?_
      try simp only [Act.put, List.getElem_toArray, List.getElem_cons_succ, List.getElem_cons_zero, List.setIfInBounds_toArray, List.set_cons_zero, List.set_cons_succ]
      refine AnyG.takeNC (i := 8) rfl (by kernel_rfl) (fun _ _ _ h => h) (by first | (simp [Region.wanted, yielded]; done) | simp [Region.wanted, yielded, undef]) hS ?_
      try simp only [Act.put, List.getElem_toArray, List.getElem_cons_succ, List.getElem_cons_zero, List.setIfInBounds_toArray, List.set_cons_zero, List.set_cons_succ]
      refine AnyG.takeNC (i := 9) rfl (by kernel_rfl) (fun _ _ _ h => h) (by first | (simp [Region.wanted, yielded]; done) | simp [Region.wanted, yielded, undef]) hS ?_
      try simp only [Act.put, List.getElem_toArray, List.getElem_cons_succ, List.getElem_cons_zero, List.setIfInBounds_toArray, List.set_cons_zero, List.set_cons_succ]
      refine AnyG.takeNC (i := 10) rfl (by kernel_rfl) (fun _ _ _ h => h) (by first | (simp [Region.wanted, yielded]; done) | simp [Region.wanted, yielded, undef]) hS ?_
      try simp only [Act.put, List.getElem_toArray, List.getElem_cons_succ, List.getElem_cons_zero, List.setIfInBounds_toArray, List.set_cons_zero, List.set_cons_succ]
      refine AnyG.takeC (i := 11) (v := ?_) rfl (by kernel_rfl) (fun _ _ _ h => h) rfl ?_ hS ?_
      rotate_left
      · (intro w' hSw; (try dsimp only at hSw); go_simp; try with_reducible rfl)
      try simp only [Act.put, List.getElem_toArray, List.getElem_cons_succ, List.getElem_cons_zero, List.setIfInBounds_toArray, List.set_cons_zero, List.set_cons_succ]
      refine AnyG.done (by kernel_rfl) ?_ _
      have hE := hS
      have K8 : K3 w.heap.size w_4.heap.size b6 b7 W _ := (K3.refl _ _ _ _ _).call hWs hE.2
      clear hS
      gi_wp2_with fail
      exact ⟨trivial, K8.kf, K8.k2, bestI_step (by rw [pick_no HOK.out]; exact hP.moves fun _ _ _ k => K8.k2.own k f6 f7) (q6.call hE.2) (q7.call hE.2) hK hB K8⟩
    · have htb := tilt_bd ho hxh (fun y hy => hy) (abd_six ho x.s)
      obtain ⟨ti0, hti0⟩ : ∃ t, (tiltP v.hs (abd v.ls x.s)).1 = t := ⟨_, rfl⟩
      obtain ⟨ti1, hti1⟩ : ∃ t, (tiltP v.hs (abd v.ls x.s)).2 = t := ⟨_, rfl⟩
      rw [hti0, hti1] at htb
      have HTB : Hid (-1000000000 ≤ ti0 ∧ ti0 ≤ 1000000000) := Lib.hid (by omega)
      have HTI0 := Lib.hid hti0
      have HTI1 := Lib.hid hti1
      have HTR := Lib.hid ho.tr
      have hti : tiltP v.hs (abd v.ls x.s) = (ti0, ti1) := by rw [← hti0, ← hti1]
      obtain ⟨lv, hlv⟩ : ∃ b, lvlOk v (ti0, ti1) = b := ⟨_, rfl⟩
      have HLV := Lib.hid hlv
      cases lv
      · have HOK : Hid (okB v x.s = false) := Lib.hid (by unfold okB; rw [hrm, hti, hlv]; rfl)
        clear hrm htb hti0 hti1 hti hlv hxh
        gi_wp2_with fail
        refine AnyG.startCIn (by kernel_rfl) (by kernel_rfl) (fun _ _ h => by cases (And.left h : (Exit.outgrown = Exit.normal))) ?_
        refine AnyG.takeP (i := 1) (v := ?_) rfl (by kernel_rfl) (fun _ _ _ h => h) rfl ?_ ?_
        rotate_left
        · (intro w'; go_simp; try with_reducible rfl)
        try simp only [Act.put, List.getElem_toArray, List.getElem_cons_succ, List.getElem_cons_zero, List.setIfInBounds_toArray, List.set_cons_zero, List.set_cons_succ]
        refine AnyG.enter (fun w' : World => Bx w' w.heap.size 26 #[.int .i64 v.li, .int .i64 v.un, .int .i64 v.tr, .slice p.HA p.hn p.hc, .int .i64 v.le, .slice p.SA p.sn p.sc, .slice p.LA p.ln p.lc] ∧ Below W.heap.size W w') (fun i => true) ?_
        have hS : (fun w' : World => Bx w' w.heap.size 26 #[.int .i64 v.li, .int .i64 v.un, .int .i64 v.tr, .slice p.HA p.hn p.hc, .int .i64 v.le, .slice p.SA p.sn p.sc, .slice p.LA p.ln p.lc] ∧ Below W.heap.size W w') (World.drew _) := ⟨kv.drew, (Below.refl _ _).drew⟩
        refine AnyG.takeC (i := 0) (v := ?_) rfl (by kernel_rfl) (fun _ _ _ h => h) rfl ?_ hS ?_
        rotate_left
        · (intro w' hSw; (try dsimp only at hSw); obtain ⟨x0, x1, x2, x3, x4, x5, x6, xf, xz⟩ := hSw.1.seven; go_simp; try with_reducible rfl)
        try simp only [Act.put, List.getElem_toArray, List.getElem_cons_succ, List.getElem_cons_zero, List.setIfInBounds_toArray, List.set_cons_zero, List.set_cons_succ]
        refine AnyG.one (i := 2) (by kernel_rfl) rfl rfl ?_
        go_simp
        refine (isRoomFor_any v p (some x.A) p.ln x.c x.s _ ho (HV.out _ ((K3.refl _ _ _ _ _).call hWs hS.2)) (HX.out _ ((K3.refl _ _ _ _ _).call hWs hS.2)) HLN.out (Nat.le_refl _) HH.out).mono ?_
        rintro e6 y6 ⟨rfl, hb6⟩
        rw [HRM.out]
        refine Onward.on ⟨hS.1.call hb6, hS.2.trans (hb6.mono hS.2.size)⟩ (fun hS2 => ?_)
        clear hS
        have hS := hS2
        clear hS2
        try simp only [Act.put, List.getElem_toArray, List.getElem_cons_succ, List.getElem_cons_zero, List.setIfInBounds_toArray, List.set_cons_zero, List.set_cons_succ]
        refine AnyG.takeC (i := 3) (v := ?_) rfl (by kernel_rfl) (fun _ _ _ h => h) rfl ?_ hS ?_
        rotate_left
        · (intro w' hSw; (try dsimp only at hSw); go_simp; try with_reducible rfl)
        try simp only [Act.put, List.getElem_toArray, List.getElem_cons_succ, List.getElem_cons_zero, List.setIfInBounds_toArray, List.set_cons_zero, List.set_cons_succ]
        refine AnyG.takeC (i := 4) (v := ?_) rfl (by kernel_rfl) (fun _ _ _ h => h) rfl ?_ hS ?_
        rotate_left
        · (intro w' hSw; (try dsimp only at hSw); go_simp; try with_reducible rfl)
        try simp only [Act.put, List.getElem_toArray, List.getElem_cons_succ, List.getElem_cons_zero, List.setIfInBounds_toArray, List.set_cons_zero, List.set_cons_succ]
        refine AnyG.takeGC (i := 5) (v := ?_) rfl (by kernel_rfl) (fun _ _ _ h => h) (by first | (simp [Region.wanted, yielded]; done) | simp [Region.wanted, yielded, undef]) ?_ hS ?_
        rotate_left
        · (intro w' hSw; (try dsimp only at hSw); obtain ⟨x0, x1, x2, x3, x4, x5, x6, xf, xz⟩ := hSw.1.seven; go_simp; try with_reducible rfl)
        try simp only [Act.put, List.getElem_toArray, List.getElem_cons_succ, List.getElem_cons_zero, List.setIfInBounds_toArray, List.set_cons_zero, List.set_cons_succ]
        refine AnyG.takeGC (i := 6) (v := ?_) rfl (by kernel_rfl) (fun _ _ _ h => h) (by first | (simp [Region.wanted, yielded]; done) | simp [Region.wanted, yielded, undef]) ?_ hS ?_
        rotate_left
        · (intro w' hSw; (try dsimp only at hSw); obtain ⟨x0, x1, x2, x3, x4, x5, x6, xf, xz⟩ := hSw.1.seven; go_simp; try with_reducible rfl)
        try simp only [Act.put, List.getElem_toArray, List.getElem_cons_succ, List.getElem_cons_zero, List.setIfInBounds_toArray, List.set_cons_zero, List.set_cons_succ]
        refine AnyG.takeGC (i := 7) (v := ?_) rfl (by kernel_rfl) (fun _ _ _ h => h) (by first | (simp [Region.wanted, yielded]; done) | simp [Region.wanted, yielded, undef]) ?_ hS ?_
        rotate_left
        · (intro w' hSw; (try dsimp only at hSw); go_simp; try with_reducible rfl)
        try simp only [Act.put, List.getElem_toArray, List.getElem_cons_succ, List.getElem_cons_zero, List.setIfInBounds_toArray, List.set_cons_zero, List.set_cons_succ]
        refine AnyG.oneC (i := 8) (by kernel_rfl) rfl (by first | (simp [Region.wanted, yielded]; done) | simp [Region.wanted, yielded, undef]) ?_
        go_simp
        refine (tilt_any v p (some x.A) p.ln x.c x.s _ ho (HV.out _ ((K3.refl _ _ _ _ _).call hWs hS.2)) (HX.out _ ((K3.refl _ _ _ _ _).call hWs hS.2)) HLN.out (Nat.le_refl _) HH.out).mono ?_
        rintro e6 y6 ⟨rfl, hb6⟩
        rw [HTI0.out, HTI1.out]
        refine Onward.on ⟨hS.1.call hb6, hS.2.trans (hb6.mono hS.2.size)⟩ (fun hS2 => ?_)
        clear hS
        have hS := hS2
        clear hS2
        try simp only [Act.put, List.getElem_toArray, List.getElem_cons_succ, List.getElem_cons_zero, List.setIfInBounds_toArray, List.set_cons_zero, List.set_cons_succ]
        refine AnyG.oneC (i := 9) (by kernel_rfl) rfl (by first | (simp [Region.wanted, yielded]; done) | simp [Region.wanted, yielded, undef]) ?_
        go_simp
        refine (isLevel_any v p (ti0, ti1) _ HTB.out.1 HTB.out.2 HTR.out).mono ?_
        rintro e6 y6 ⟨rfl, hb6⟩
        rw [HLV.out]
        refine Onward.on ⟨hS.1.call hb6, hS.2.trans (hb6.mono hS.2.size)⟩ (fun hS2 => ?_)
        clear hS
        have hS := hS2
        clear hS2
        try simp only [Act.put, List.getElem_toArray, List.getElem_cons_succ, List.getElem_cons_zero, List.setIfInBounds_toArray, List.set_cons_zero, List.set_cons_succ]
        refine AnyG.takeGC (i := 10) (v := ?_) rfl (by kernel_rfl) (fun _ _ _ h => h) (by first | (simp [Region.wanted, yielded]; done) | simp [Region.wanted, yielded, undef]) ?_ hS ?_
        rotate_left
        · (intro w' hSw; (try dsimp only at hSw); go_simp; try with_reducible rfl)
        try simp only [Act.put, List.getElem_toArray, List.getElem_cons_succ, List.getElem_cons_zero, List.setIfInBounds_toArray, List.set_cons_zero, List.set_cons_succ]
        refine AnyG.takeC (i := 11) (v := ?_) rfl (by kernel_rfl) (fun _ _ _ h => h) rfl ?_ hS ?_
        rotate_left
        · (intro w' hSw; (try dsimp only at hSw); go_simp; try with_reducible rfl)
        try simp only [Act.put, List.getElem_toArray, List.getElem_cons_succ, List.getElem_cons_zero, List.setIfInBounds_toArray, List.set_cons_zero, List.set_cons_succ]
        refine AnyG.done (by kernel_rfl) ?_ _
        have hE := hS
        have K8 : K3 w.heap.size w_4.heap.size b6 b7 W _ := (K3.refl _ _ _ _ _).call hWs hE.2
        clear hS
        gi_wp2_with fail
        exact ⟨trivial, K8.kf, K8.k2, bestI_step (by rw [pick_no HOK.out]; exact hP.moves fun _ _ _ k => K8.k2.own k f6 f7) (q6.call hE.2) (q7.call hE.2) hK hB K8⟩
      · have HOK : Hid (okB v x.s = passM v (abd v.ls x.s)) := Lib.hid (by unfold okB; rw [hrm, hti, hlv]; rfl)
        clear hrm htb hti0 hti1 hti hlv hxh
        gi_wp2_with fail
        refine AnyG.startCIn (by kernel_rfl) (by kernel_rfl) (fun _ _ h => by cases (And.left h : (Exit.outgrown = Exit.normal))) ?_
        refine AnyG.takeP (i := 1) (v := ?_) rfl (by kernel_rfl) (fun _ _ _ h => h) rfl ?_ ?_
        rotate_left
        · (intro w'; go_simp; try with_reducible rfl)
        try simp only [Act.put, List.getElem_toArray, List.getElem_cons_succ, List.getElem_cons_zero, List.setIfInBounds_toArray, List.set_cons_zero, List.set_cons_succ]
        refine AnyG.enter (fun w' : World => Bx w' w.heap.size 26 #[.int .i64 v.li, .int .i64 v.un, .int .i64 v.tr, .slice p.HA p.hn p.hc, .int .i64 v.le, .slice p.SA p.sn p.sc, .slice p.LA p.ln p.lc] ∧ Below W.heap.size W w') (fun i => true) ?_
        have hS : (fun w' : World => Bx w' w.heap.size 26 #[.int .i64 v.li, .int .i64 v.un, .int .i64 v.tr, .slice p.HA p.hn p.hc, .int .i64 v.le, .slice p.SA p.sn p.sc, .slice p.LA p.ln p.lc] ∧ Below W.heap.size W w') (World.drew _) := ⟨kv.drew, (Below.refl _ _).drew⟩
        refine AnyG.takeC (i := 0) (v := ?_) rfl (by kernel_rfl) (fun _ _ _ h => h) rfl ?_ hS ?_
        rotate_left
        · (intro w' hSw; (try dsimp only at hSw); obtain ⟨x0, x1, x2, x3, x4, x5, x6, xf, xz⟩ := hSw.1.seven; go_simp; try with_reducible rfl)
        try simp only [Act.put, List.getElem_toArray, List.getElem_cons_succ, List.getElem_cons_zero, List.setIfInBounds_toArray, List.set_cons_zero, List.set_cons_succ]
        refine AnyG.one (i := 2) (by kernel_rfl) rfl rfl ?_
        go_simp
        refine (isRoomFor_any v p (some x.A) p.ln x.c x.s _ ho (HV.out _ ((K3.refl _ _ _ _ _).call hWs hS.2)) (HX.out _ ((K3.refl _ _ _ _ _).call hWs hS.2)) HLN.out (Nat.le_refl _) HH.out).mono ?_
        rintro e6 y6 ⟨rfl, hb6⟩
        rw [HRM.out]
        refine Onward.on ⟨hS.1.call hb6, hS.2.trans (hb6.mono hS.2.size)⟩ (fun hS2 => ?_)
        clear hS
        have hS := hS2
        clear hS2
        try simp only [Act.put, List.getElem_toArray, List.getElem_cons_succ, List.getElem_cons_zero, List.setIfInBounds_toArray, List.set_cons_zero, List.set_cons_succ]
        refine AnyG.takeC (i := 3) (v := ?_) rfl (by kernel_rfl) (fun _ _ _ h => h) rfl ?_ hS ?_
        rotate_left
        · (intro w' hSw; (try dsimp only at hSw); go_simp; try with_reducible rfl)
        try simp only [Act.put, List.getElem_toArray, List.getElem_cons_succ, List.getElem_cons_zero, List.setIfInBounds_toArray, List.set_cons_zero, List.set_cons_succ]
        refine AnyG.takeC (i := 4) (v := ?_) rfl (by kernel_rfl) (fun _ _ _ h => h) rfl ?_ hS ?_
        rotate_left
        · (intro w' hSw; (try dsimp only at hSw); go_simp; try with_reducible rfl)
        try simp only [Act.put, List.getElem_toArray, List.getElem_cons_succ, List.getElem_cons_zero, List.setIfInBounds_toArray, List.set_cons_zero, List.set_cons_succ]
        refine AnyG.takeGC (i := 5) (v := ?_) rfl (by kernel_rfl) (fun _ _ _ h => h) (by first | (simp [Region.wanted, yielded]; done) | simp [Region.wanted, yielded, undef]) ?_ hS ?_
        rotate_left
        · (intro w' hSw; (try dsimp only at hSw); obtain ⟨x0, x1, x2, x3, x4, x5, x6, xf, xz⟩ := hSw.1.seven; go_simp; try with_reducible rfl)
        try simp only [Act.put, List.getElem_toArray, List.getElem_cons_succ, List.getElem_cons_zero, List.setIfInBounds_toArray, List.set_cons_zero, List.set_cons_succ]
        refine AnyG.takeGC (i := 6) (v := ?_) rfl (by kernel_rfl) (fun _ _ _ h => h) (by first | (simp [Region.wanted, yielded]; done) | simp [Region.wanted, yielded, undef]) ?_ hS ?_
        rotate_left
        · (intro w' hSw; (try dsimp only at hSw); obtain ⟨x0, x1, x2, x3, x4, x5, x6, xf, xz⟩ := hSw.1.seven; go_simp; try with_reducible rfl)
        try simp only [Act.put, List.getElem_toArray, List.getElem_cons_succ, List.getElem_cons_zero, List.setIfInBounds_toArray, List.set_cons_zero, List.set_cons_succ]
        refine AnyG.takeGC (i := 7) (v := ?_) rfl (by kernel_rfl) (fun _ _ _ h => h) (by first | (simp [Region.wanted, yielded]; done) | simp [Region.wanted, yielded, undef]) ?_ hS ?_
        rotate_left
        · (intro w' hSw; (try dsimp only at hSw); go_simp; try with_reducible rfl)
        try simp only [Act.put, List.getElem_toArray, List.getElem_cons_succ, List.getElem_cons_zero, List.setIfInBounds_toArray, List.set_cons_zero, List.set_cons_succ]
        refine AnyG.oneC (i := 8) (by kernel_rfl) rfl (by first | (simp [Region.wanted, yielded]; done) | simp [Region.wanted, yielded, undef]) ?_
        go_simp
        refine (tilt_any v p (some x.A) p.ln x.c x.s _ ho (HV.out _ ((K3.refl _ _ _ _ _).call hWs hS.2)) (HX.out _ ((K3.refl _ _ _ _ _).call hWs hS.2)) HLN.out (Nat.le_refl _) HH.out).mono ?_
        rintro e6 y6 ⟨rfl, hb6⟩
        rw [HTI0.out, HTI1.out]
        refine Onward.on ⟨hS.1.call hb6, hS.2.trans (hb6.mono hS.2.size)⟩ (fun hS2 => ?_)
        clear hS
        have hS := hS2
        clear hS2
        try simp only [Act.put, List.getElem_toArray, List.getElem_cons_succ, List.getElem_cons_zero, List.setIfInBounds_toArray, List.set_cons_zero, List.set_cons_succ]
        refine AnyG.oneC (i := 9) (by kernel_rfl) rfl (by first | (simp [Region.wanted, yielded]; done) | simp [Region.wanted, yielded, undef]) ?_
        go_simp
        refine (isLevel_any v p (ti0, ti1) _ HTB.out.1 HTB.out.2 HTR.out).mono ?_
        rintro e6 y6 ⟨rfl, hb6⟩
        rw [HLV.out]
        refine Onward.on ⟨hS.1.call hb6, hS.2.trans (hb6.mono hS.2.size)⟩ (fun hS2 => ?_)
        clear hS
        have hS := hS2
        clear hS2
        try simp only [Act.put, List.getElem_toArray, List.getElem_cons_succ, List.getElem_cons_zero, List.setIfInBounds_toArray, List.set_cons_zero, List.set_cons_succ]
        refine AnyG.takeGC (i := 10) (v := ?_) rfl (by kernel_rfl) (fun _ _ _ h => h) (by first | (simp [Region.wanted, yielded]; done) | simp [Region.wanted, yielded, undef]) ?_ hS ?_
        rotate_left
        · (intro w' hSw; (try dsimp only at hSw); go_simp; try with_reducible rfl)
        try simp only [Act.put, List.getElem_toArray, List.getElem_cons_succ, List.getElem_cons_zero, List.setIfInBounds_toArray, List.set_cons_zero, List.set_cons_succ]
        refine AnyG.takeC (i := 11) (v := ?_) rfl (by kernel_rfl) (fun _ _ _ h => h) rfl ?_ hS ?_
        rotate_left
        · (intro w' hSw; (try dsimp only at hSw); go_simp; try with_reducible rfl)
        try simp only [Act.put, List.getElem_toArray, List.getElem_cons_succ, List.getElem_cons_zero, List.setIfInBounds_toArray, List.set_cons_zero, List.set_cons_succ]
        refine AnyG.done (by kernel_rfl) ?_ _
        have hE := hS
        have K8 : K3 w.heap.size w_4.heap.size b6 b7 W _ := (K3.refl _ _ _ _ _).call hWs hE.2
        clear hS
        gi_wp2_with fail
        have kv8 := hE.1
        have q68 := q6.call hE.2
        have q78 := q7.call hE.2
        have hdb := deep_bd ho HH.out false (fun y hy => hy) (abd_six ho x.s)
        obtain ⟨e0, he0⟩ : ∃ z, deepB v (abd v.ls x.s) false = z := ⟨_, rfl⟩
        obtain ⟨e1, he1⟩ : ∃ z, deepS v (abd v.ls x.s) false = z := ⟨_, rfl⟩
        rw [he0, he1] at hdb
        have HEB : Hid ((0 ≤ e0 ∧ e0 ≤ 305000000) ∧ (0 ≤ e1 ∧ e1 ≤ 305000000)) := Lib.hid (by omega)
        have HE0 := Lib.hid he0
        have HE1 := Lib.hid he1
        have HOP : Hid (okB v x.s = pasD v e0 e1) := Lib.hid (by rw [HOK.out, ← he0, ← he1]; rfl)
        have HP := Lib.hid hP
        clear he0 he1 hdb hE hP q6 q7
        refine AnyG.startCIn (by kernel_rfl) (by kernel_rfl) (fun _ _ h => by cases (And.left h : (Exit.outgrown = Exit.normal))) ?_
        refine AnyG.takeP (i := 2) (v := ?_) rfl (by kernel_rfl) (fun _ _ _ h => h) rfl ?_ ?_
        rotate_left
        · (intro w'; go_simp; try with_reducible rfl)
        try simp only [Act.put, List.getElem_toArray, List.getElem_cons_succ, List.getElem_cons_zero, List.setIfInBounds_toArray, List.set_cons_zero, List.set_cons_succ]
        refine AnyG.enter (fun w' : World => (Bx w' w.heap.size 26 #[.int .i64 v.li, .int .i64 v.un, .int .i64 v.tr, .slice p.HA p.hn p.hc, .int .i64 v.le, .slice p.SA p.sn p.sc, .slice p.LA p.ln p.lc] ∧ Bx w' b7 81 #[.int .i64 d0, .int .i64 d1, .bool (pasD v d0 d1)] ∧ Bx w' b6 79 #[.slice X m c, .int .i64 a]) ∧ K3 w.heap.size w_4.heap.size b6 b7 W w') (fun i => i != 5) ?_
        have hS : (fun w' : World => (Bx w' w.heap.size 26 #[.int .i64 v.li, .int .i64 v.un, .int .i64 v.tr, .slice p.HA p.hn p.hc, .int .i64 v.le, .slice p.SA p.sn p.sc, .slice p.LA p.ln p.lc] ∧ Bx w' b7 81 #[.int .i64 d0, .int .i64 d1, .bool (pasD v d0 d1)] ∧ Bx w' b6 79 #[.slice X m c, .int .i64 a]) ∧ K3 w.heap.size w_4.heap.size b6 b7 W w') (World.drew _) := ⟨⟨kv8.drew, q78.drew, q68.drew⟩, K8.drew⟩
        refine AnyG.takeC (i := 0) (v := ?_) rfl (by kernel_rfl) (fun _ _ _ h => h) rfl ?_ hS ?_
        rotate_left
        · (intro w' hSw; (try dsimp only at hSw); obtain ⟨x0, x1, x2, xf, xz⟩ := Bx.three' hSw.1.2.1; go_simp; try with_reducible rfl)
        try simp only [Act.put, List.getElem_toArray, List.getElem_cons_succ, List.getElem_cons_zero, List.setIfInBounds_toArray, List.set_cons_zero, List.set_cons_succ]
        refine AnyG.takeC (i := 1) (v := ?_) rfl (by kernel_rfl) (fun _ _ _ h => h) rfl ?_ hS ?_
        rotate_left
        · (intro w' hSw; (try dsimp only at hSw); obtain ⟨x0, x1, x2, x3, x4, x5, x6, xf, xz⟩ := hSw.1.1.seven; go_simp; try with_reducible rfl)
        try simp only [Act.put, List.getElem_toArray, List.getElem_cons_succ, List.getElem_cons_zero, List.setIfInBounds_toArray, List.set_cons_zero, List.set_cons_succ]
        refine AnyG.one (i := 3) (by kernel_rfl) rfl rfl ?_
        go_simp
        refine (load_any v p (some x.A) p.ln x.c x.s false _ ho (HV.out _ hS.2) (HX.out _ hS.2) HLN.out (Nat.le_refl _) HH.out).mono ?_
        rintro e6 y6 ⟨rfl, hb6⟩
        rw [HE0.out, HE1.out]
        refine Onward.on ⟨⟨hS.1.1.call hb6, hS.1.2.1.call hb6, hS.1.2.2.call hb6⟩, hS.2.call hWs hb6⟩ (fun hS2 => ?_)
        clear hS
        have hS := hS2
        clear hS2
        try simp only [Act.put, List.getElem_toArray, List.getElem_cons_succ, List.getElem_cons_zero, List.setIfInBounds_toArray, List.set_cons_zero, List.set_cons_succ]
        refine AnyG.one (i := 4) (by kernel_rfl) rfl rfl ?_
        go_simp
        refine (with_any v p d0 d1 e0 e1 _ ho (HV.out _ hS.2) HEB.out.1 HEB.out.2).mono ?_
        rintro e6 y6 ⟨rfl, hb6⟩
        rw [show trl v e0 e1 = #[Value.int .i64 e0, .int .i64 e1, .bool (pasD v e0 e1)] from rfl]
        refine Onward.on ⟨⟨hS.1.1.call hb6, hS.1.2.1.call hb6, hS.1.2.2.call hb6⟩, hS.2.call hWs hb6⟩ (fun hS2 => ?_)
        clear hS
        have hS := hS2
        clear hS2
        try simp only [Act.put, List.getElem_toArray, List.getElem_cons_succ, List.getElem_cons_zero, List.setIfInBounds_toArray, List.set_cons_zero, List.set_cons_succ]
        refine AnyG.one (i := 5) (by kernel_rfl) rfl rfl ?_
        obtain ⟨z0, z1, z2, zf, zz⟩ := Bx.three' hS.1.2.1
        have hE := hS
        go_simp
        clear z0 z1 z2 zf zz
        refine Onward.last rfl ?_
        try simp only [Act.put, List.getElem_toArray, List.getElem_cons_succ, List.getElem_cons_zero, List.setIfInBounds_toArray, List.set_cons_zero, List.set_cons_succ]
        refine AnyG.done (by kernel_rfl) ?_ _
        have hE2 := hE
        clear hS hE K8 kv8 q68 q78
        obtain ⟨⟨kE, qE7, qE6⟩, KE⟩ := hE2
        have kv9 := ((kE.far (p := ⟨b7, 0, none⟩) r7 (.int .i64 e0)).far (p := ⟨b7, 1, none⟩) r7 (.int .i64 e1)).far (p := ⟨b7, 2, none⟩) r7 (.bool (pasD v e0 e1))
        have q69 := ((qE6.far (p := ⟨b7, 0, none⟩) g67 (.int .i64 e0)).far (p := ⟨b7, 1, none⟩) g67 (.int .i64 e1)).far (p := ⟨b7, 2, none⟩) g67 (.bool (pasD v e0 e1))
        have q79 := ((qE7.set_ 0 (.int .i64 e0)).set_ 1 (.int .i64 e1)).set_ 2 (.bool (pasD v e0 e1))
        have K9 := ((KE.set2 g7 f7 0 (.int .i64 e0)).set2 g7 f7 1 (.int .i64 e1)).set2 g7 f7 2 (.bool (pasD v e0 e1))
        simp only [List.setIfInBounds_toArray, List.set_cons_zero, List.set_cons_succ] at q79
        obtain ⟨U, hU⟩ : ∃ U, ((y6.setCell ⟨b7, 0, none⟩ (.int .i64 e0)).setCell ⟨b7, 1, none⟩ (.int .i64 e1)).setCell ⟨b7, 2, none⟩ (.bool (pasD v e0 e1)) = U := ⟨_, rfl⟩
        rw [hU] at kv9 q69 q79 K9 ⊢
        clear hU kE qE7 qE6 KE
        obtain ⟨o0, o1, o2, of, oz⟩ := Bx.three' q79
        obtain ⟨pt, hpt⟩ : ∃ b, pasD v e0 e1 = b := ⟨_, rfl⟩
        have HPT := Lib.hid hpt
        rw [hpt] at o2
        have q79 : Bx U b7 81 (trl v e0 e1) := q79
        clear hpt
        cases pt
        · gi_wp2_with fail
          exact ⟨trivial, K9.kf, K9.k2, bestI_step (by rw [pick_no (HOP.out.trans HPT.out)]; exact HP.out.moves fun _ _ _ k => K9.k2.own k f6 f7) q69 q79 hK hB K9⟩
        · obtain ⟨wx, hwx⟩ : ∃ z, woB v x.s = z := ⟨_, rfl⟩
          have HWO : Hid (worM (abd v.ls x.s) = wx) := Lib.hid hwx
          have HPK : Hid (pick (okB v) (woB v) (bst (okB v) (woB v) (pre.map (·.s))) x.s = if a < wx then some x.s else bst (okB v) (woB v) (pre.map (·.s))) := Lib.hid (by rw [pick_at HP.out (HOP.out.trans HPT.out), hwx])
          have hxo : Hid (W.ownsRow w_4.heap.size 3 1 (.slice (some x.A) p.ln x.c) p.ln (inr x.s).flatten) := Lib.hid hxo
          have HWX : Hid (wx = woB v x.s) := Lib.hid hwx.symm
          clear hwx
          by_cases hab : a < wx
          · gi_wp2_with fail
            refine AnyG.startCIn (by kernel_rfl) (by kernel_rfl) (fun _ _ h => by cases (And.left h : (Exit.outgrown = Exit.normal))) ?_
            refine AnyG.takeP (i := 2) (v := ?_) rfl (by kernel_rfl) (fun _ _ _ h => h) rfl ?_ ?_
            rotate_left
            · (intro w'; go_simp; try with_reducible rfl)
            try simp only [Act.put, List.getElem_toArray, List.getElem_cons_succ, List.getElem_cons_zero, List.setIfInBounds_toArray, List.set_cons_zero, List.set_cons_succ]
            refine AnyG.enter (fun w' : World => (Bx w' w.heap.size 26 #[.int .i64 v.li, .int .i64 v.un, .int .i64 v.tr, .slice p.HA p.hn p.hc, .int .i64 v.le, .slice p.SA p.sn p.sc, .slice p.LA p.ln p.lc] ∧ Bx w' b6 79 #[.slice X m c, .int .i64 a] ∧ Bx w' b7 81 (trl v e0 e1)) ∧ K3 w.heap.size w_4.heap.size b6 b7 W w') (fun i => i != 5) ?_
            have hS : (fun w' : World => (Bx w' w.heap.size 26 #[.int .i64 v.li, .int .i64 v.un, .int .i64 v.tr, .slice p.HA p.hn p.hc, .int .i64 v.le, .slice p.SA p.sn p.sc, .slice p.LA p.ln p.lc] ∧ Bx w' b6 79 #[.slice X m c, .int .i64 a] ∧ Bx w' b7 81 (trl v e0 e1)) ∧ K3 w.heap.size w_4.heap.size b6 b7 W w') (World.drew _) := ⟨⟨kv9.drew, q69.drew, q79.drew⟩, K9.drew⟩
            refine AnyG.takeC (i := 0) (v := ?_) rfl (by kernel_rfl) (fun _ _ _ h => h) rfl ?_ hS ?_
            rotate_left
            · (intro w' hSw; (try dsimp only at hSw); obtain ⟨x0, x1, xf, xz⟩ := hSw.1.2.1.two; go_simp; try with_reducible rfl)
            try simp only [Act.put, List.getElem_toArray, List.getElem_cons_succ, List.getElem_cons_zero, List.setIfInBounds_toArray, List.set_cons_zero, List.set_cons_succ]
            refine AnyG.takeC (i := 1) (v := ?_) rfl (by kernel_rfl) (fun _ _ _ h => h) rfl ?_ hS ?_
            rotate_left
            · (intro w' hSw; (try dsimp only at hSw); obtain ⟨x0, x1, x2, x3, x4, x5, x6, xf, xz⟩ := hSw.1.1.seven; go_simp; try with_reducible rfl)
            try simp only [Act.put, List.getElem_toArray, List.getElem_cons_succ, List.getElem_cons_zero, List.setIfInBounds_toArray, List.set_cons_zero, List.set_cons_succ]
            refine AnyG.one (i := 3) (by kernel_rfl) rfl rfl ?_
            go_simp
            refine (planOf_any v p (some x.A) p.ln x.c x.s _ ho (HV.out _ hS.2) (HX.out _ hS.2) HLN.out (Nat.le_refl _)).mono ?_
            rintro e6 y6 ⟨rfl, hb6⟩
            rw [HWO.out, show pln (some x.A) p.ln x.c wx = #[Value.slice (some x.A) p.ln x.c, .int .i64 wx] from rfl]
            refine Onward.on ⟨⟨hS.1.1.call hb6, hS.1.2.1.call hb6, hS.1.2.2.call hb6⟩, hS.2.call hWs hb6⟩ (fun hS2 => ?_)
            clear hS
            have hS := hS2
            clear hS2
            try simp only [Act.put, List.getElem_toArray, List.getElem_cons_succ, List.getElem_cons_zero, List.setIfInBounds_toArray, List.set_cons_zero, List.set_cons_succ]
            refine AnyG.one (i := 4) (by kernel_rfl) rfl rfl ?_
            go_simp
            refine (better_any X m c a (some x.A) p.ln x.c wx _).mono ?_
            rintro e6 y6 ⟨rfl, hb6⟩
            rw [if_pos hab]
            rw [show pln (some x.A) p.ln x.c wx = #[Value.slice (some x.A) p.ln x.c, .int .i64 wx] from rfl]
            refine Onward.on ⟨⟨hS.1.1.call hb6, hS.1.2.1.call hb6, hS.1.2.2.call hb6⟩, hS.2.call hWs hb6⟩ (fun hS2 => ?_)
            clear hS
            have hS := hS2
            clear hS2
            try simp only [Act.put, List.getElem_toArray, List.getElem_cons_succ, List.getElem_cons_zero, List.setIfInBounds_toArray, List.set_cons_zero, List.set_cons_succ]
            refine AnyG.one (i := 5) (by kernel_rfl) rfl rfl ?_
            obtain ⟨z0, z1, zf, zz⟩ := hS.1.2.1.two
            have hE := hS
            go_simp
            clear z0 z1 zf zz
            refine Onward.last rfl ?_
            try simp only [Act.put, List.getElem_toArray, List.getElem_cons_succ, List.getElem_cons_zero, List.setIfInBounds_toArray, List.set_cons_zero, List.set_cons_succ]
            refine AnyG.done (by kernel_rfl) ?_ _
            have hE2 := hE
            clear hS hE K9 kv9 q69 q79 o0 o1 o2 of oz
            obtain ⟨⟨kE, qE6, qE7⟩, KE⟩ := hE2
            have q6' := (qE6.set_ 0 (.slice (some x.A) p.ln x.c)).set_ 1 (.int .i64 wx)
            have q7' := (qE7.far (p := ⟨b6, 0, none⟩) (Ne.symm g67) (.slice (some x.A) p.ln x.c)).far (p := ⟨b6, 1, none⟩) (Ne.symm g67) (.int .i64 wx)
            have K' := (KE.set1 g6 f6 0 (.slice (some x.A) p.ln x.c)).set1 g6 f6 1 (.int .i64 wx)
            simp only [List.setIfInBounds_toArray, List.set_cons_zero, List.set_cons_succ] at q6'
            obtain ⟨U2, hU2⟩ : ∃ U, (y6.setCell ⟨b6, 0, none⟩ (.slice (some x.A) p.ln x.c)).setCell ⟨b6, 1, none⟩ (.int .i64 wx) = U := ⟨_, rfl⟩
            rw [hU2] at q6' q7' K' ⊢
            clear hU2 kE qE6 qE7 KE
            gi_wp2_with fail
            exact ⟨trivial, K'.kf, K'.k2, bestI_step (by rw [HPK.out, if_pos hab]; exact ⟨HWX.out, rfl, ⟨x.A, rfl⟩, K'.k2.own hxo.out f6 f7⟩) q6' q7' hK hB K'⟩
          · gi_wp2_with fail
            refine AnyG.startCIn (by kernel_rfl) (by kernel_rfl) (fun _ _ h => by cases (And.left h : (Exit.outgrown = Exit.normal))) ?_
            refine AnyG.takeP (i := 2) (v := ?_) rfl (by kernel_rfl) (fun _ _ _ h => h) rfl ?_ ?_
            rotate_left
            · (intro w'; go_simp; try with_reducible rfl)
            try simp only [Act.put, List.getElem_toArray, List.getElem_cons_succ, List.getElem_cons_zero, List.setIfInBounds_toArray, List.set_cons_zero, List.set_cons_succ]
            refine AnyG.enter (fun w' : World => (Bx w' w.heap.size 26 #[.int .i64 v.li, .int .i64 v.un, .int .i64 v.tr, .slice p.HA p.hn p.hc, .int .i64 v.le, .slice p.SA p.sn p.sc, .slice p.LA p.ln p.lc] ∧ Bx w' b6 79 #[.slice X m c, .int .i64 a] ∧ Bx w' b7 81 (trl v e0 e1)) ∧ K3 w.heap.size w_4.heap.size b6 b7 W w') (fun i => i != 5) ?_
            have hS : (fun w' : World => (Bx w' w.heap.size 26 #[.int .i64 v.li, .int .i64 v.un, .int .i64 v.tr, .slice p.HA p.hn p.hc, .int .i64 v.le, .slice p.SA p.sn p.sc, .slice p.LA p.ln p.lc] ∧ Bx w' b6 79 #[.slice X m c, .int .i64 a] ∧ Bx w' b7 81 (trl v e0 e1)) ∧ K3 w.heap.size w_4.heap.size b6 b7 W w') (World.drew _) := ⟨⟨kv9.drew, q69.drew, q79.drew⟩, K9.drew⟩
            refine AnyG.takeC (i := 0) (v := ?_) rfl (by kernel_rfl) (fun _ _ _ h => h) rfl ?_ hS ?_
            rotate_left
            · (intro w' hSw; (try dsimp only at hSw); obtain ⟨x0, x1, xf, xz⟩ := hSw.1.2.1.two; go_simp; try with_reducible rfl)
            try simp only [Act.put, List.getElem_toArray, List.getElem_cons_succ, List.getElem_cons_zero, List.setIfInBounds_toArray, List.set_cons_zero, List.set_cons_succ]
            refine AnyG.takeC (i := 1) (v := ?_) rfl (by kernel_rfl) (fun _ _ _ h => h) rfl ?_ hS ?_
            rotate_left
            · (intro w' hSw; (try dsimp only at hSw); obtain ⟨x0, x1, x2, x3, x4, x5, x6, xf, xz⟩ := hSw.1.1.seven; go_simp; try with_reducible rfl)
            try simp only [Act.put, List.getElem_toArray, List.getElem_cons_succ, List.getElem_cons_zero, List.setIfInBounds_toArray, List.set_cons_zero, List.set_cons_succ]
            refine AnyG.one (i := 3) (by kernel_rfl) rfl rfl ?_
            go_simp
            refine (planOf_any v p (some x.A) p.ln x.c x.s _ ho (HV.out _ hS.2) (HX.out _ hS.2) HLN.out (Nat.le_refl _)).mono ?_
            rintro e6 y6 ⟨rfl, hb6⟩
            rw [HWO.out, show pln (some x.A) p.ln x.c wx = #[Value.slice (some x.A) p.ln x.c, .int .i64 wx] from rfl]
            refine Onward.on ⟨⟨hS.1.1.call hb6, hS.1.2.1.call hb6, hS.1.2.2.call hb6⟩, hS.2.call hWs hb6⟩ (fun hS2 => ?_)
            clear hS
            have hS := hS2
            clear hS2
            try simp only [Act.put, List.getElem_toArray, List.getElem_cons_succ, List.getElem_cons_zero, List.setIfInBounds_toArray, List.set_cons_zero, List.set_cons_succ]
            refine AnyG.one (i := 4) (by kernel_rfl) rfl rfl ?_
            go_simp
            refine (better_any X m c a (some x.A) p.ln x.c wx _).mono ?_
            rintro e6 y6 ⟨rfl, hb6⟩
            rw [if_neg (show ¬ a < wx by omega)]
            rw [show pln X m c a = #[Value.slice X m c, .int .i64 a] from rfl]
            refine Onward.on ⟨⟨hS.1.1.call hb6, hS.1.2.1.call hb6, hS.1.2.2.call hb6⟩, hS.2.call hWs hb6⟩ (fun hS2 => ?_)
            clear hS
            have hS := hS2
            clear hS2
            try simp only [Act.put, List.getElem_toArray, List.getElem_cons_succ, List.getElem_cons_zero, List.setIfInBounds_toArray, List.set_cons_zero, List.set_cons_succ]
            refine AnyG.one (i := 5) (by kernel_rfl) rfl rfl ?_
            obtain ⟨z0, z1, zf, zz⟩ := hS.1.2.1.two
            have hE := hS
            go_simp
            clear z0 z1 zf zz
            refine Onward.last rfl ?_
            try simp only [Act.put, List.getElem_toArray, List.getElem_cons_succ, List.getElem_cons_zero, List.setIfInBounds_toArray, List.set_cons_zero, List.set_cons_succ]
            refine AnyG.done (by kernel_rfl) ?_ _
            have hE2 := hE
            clear hS hE K9 kv9 q69 q79 o0 o1 o2 of oz
            obtain ⟨⟨kE, qE6, qE7⟩, KE⟩ := hE2
            have q6' := (qE6.set_ 0 (.slice X m c)).set_ 1 (.int .i64 a)
            have q7' := (qE7.far (p := ⟨b6, 0, none⟩) (Ne.symm g67) (.slice X m c)).far (p := ⟨b6, 1, none⟩) (Ne.symm g67) (.int .i64 a)
            have K' := (KE.set1 g6 f6 0 (.slice X m c)).set1 g6 f6 1 (.int .i64 a)
            simp only [List.setIfInBounds_toArray, List.set_cons_zero, List.set_cons_succ] at q6'
            obtain ⟨U2, hU2⟩ : ∃ U, (y6.setCell ⟨b6, 0, none⟩ (.slice X m c)).setCell ⟨b6, 1, none⟩ (.int .i64 a) = U := ⟨_, rfl⟩
            rw [hU2] at q6' q7' K' ⊢
            clear hU2 kE qE6 qE7 KE
            gi_wp2_with fail
            exact ⟨trivial, K'.kf, K'.k2, bestI_step (by rw [HPK.out, if_neg (show ¬ a < wx by omega)]; exact HP.out.moves fun _ _ _ k => K'.k2.own k f6 f7) q6' q7' hK hB K'⟩
  case done =>
    rintro D xs W hD hSx ⟨⟨X, m, c, a, q6, hP⟩, -, hK, hB⟩ hKD
    rw [hSx] at hP
    have HP := Lib.hid hP
    have HKD := Lib.hid hKD
    have hB2 := B_4.trans hB
    obtain ⟨x0, x1, xf, xz⟩ := q6.two
    clear hP hKD
    go_wp2_with fail
    refine drawOnly ?_
    refine AnyG.startC (by kernel_rfl) ?_
    refine AnyG.takeP (i := 0) (v := ?_) rfl (by kernel_rfl) (fun _ _ _ h => h) rfl ?_ ?_
    rotate_left
    · (intro w'; go_simp; try with_reducible rfl)
    try simp only [Act.put, List.getElem_toArray, List.getElem_cons_succ, List.getElem_cons_zero, List.setIfInBounds_toArray, List.set_cons_zero, List.set_cons_succ]
    refine AnyG.takeP (i := 2) (v := ?_) rfl (by kernel_rfl) (fun _ _ _ h => h) rfl ?_ ?_
    rotate_left
    · (intro w'; go_simp; try with_reducible rfl)
    try simp only [Act.put, List.getElem_toArray, List.getElem_cons_succ, List.getElem_cons_zero, List.setIfInBounds_toArray, List.set_cons_zero, List.set_cons_succ]
    refine AnyG.enter (fun w' : World => Bx w' b6 79 #[.slice X m c, .int .i64 a] ∧ Below W.heap.size W w') (fun i => true) ?_
    have hS : (fun w' : World => Bx w' b6 79 #[.slice X m c, .int .i64 a] ∧ Below W.heap.size W w') (World.drew _) := ⟨q6.drew, (Below.refl _ _).drew⟩
    refine AnyG.takeC (i := 1) (v := ?_) rfl (by kernel_rfl) (fun _ _ _ h => h) rfl ?_ hS ?_
    rotate_left
    · (intro w' hSw; (try dsimp only at hSw); obtain ⟨x0, x1, xf, xz⟩ := hSw.1.two; go_simp; try with_reducible rfl)
    try simp only [Act.put, List.getElem_toArray, List.getElem_cons_succ, List.getElem_cons_zero, List.setIfInBounds_toArray, List.set_cons_zero, List.set_cons_succ]
    refine AnyG.takeC (i := 3) (v := ?_) rfl (by kernel_rfl) (fun _ _ _ h => h) rfl ?_ hS ?_
    rotate_left
    · (intro w' hSw; (try dsimp only at hSw); obtain ⟨x0, x1, xf, xz⟩ := hSw.1.two; go_simp; try with_reducible rfl)
    try simp only [Act.put, List.getElem_toArray, List.getElem_cons_succ, List.getElem_cons_zero, List.setIfInBounds_toArray, List.set_cons_zero, List.set_cons_succ]
    refine AnyG.one (i := 4) (by kernel_rfl) rfl rfl ?_
    go_simp
    refine Onward.on hS (fun hS2 => ?_)
    clear hS
    have hS := hS2
    clear hS2
    try simp only [Act.put, List.getElem_toArray, List.getElem_cons_succ, List.getElem_cons_zero, List.setIfInBounds_toArray, List.set_cons_zero, List.set_cons_succ]
    refine AnyG.one (i := 5) (by kernel_rfl) rfl rfl ?_
    go_simp
    refine Onward.on hS (fun hS2 => ?_)
    clear hS
    have hS := hS2
    clear hS2
    try simp only [Act.put, List.getElem_toArray, List.getElem_cons_succ, List.getElem_cons_zero, List.setIfInBounds_toArray, List.set_cons_zero, List.set_cons_succ]
    refine AnyG.one (i := 6) (by kernel_rfl) rfl rfl ?_
    go_simp
    refine Onward.on hS (fun hS2 => ?_)
    clear hS
    have hS := hS2
    clear hS2
    try simp only [Act.put, List.getElem_toArray, List.getElem_cons_succ, List.getElem_cons_zero, List.setIfInBounds_toArray, List.set_cons_zero, List.set_cons_succ]
    refine AnyG.done (by kernel_rfl) ?_ _
    have hE := hS.2
    clear hS x0 x1 xf xz q6
    have hB3 := hB2.trans (hE.mono (Nat.le_trans gw hK.size))
    have hD2 : D < W.heap.size := (Array.getElem?_eq_some_iff.1 HKD.out).1
    go_wp2_with fail
    refine leavesM_marks (B := w.heap.size) _ _ ⟨[D], rfl, by simp, fun D' hD' => ?_⟩ ?_
    · obtain rfl : D' = D := by simpa using hD'
      exact ⟨by omega, HKD.out⟩
    · intro W' hb hk _
      refine ⟨.tuple #[.slice X m c, .int .i64 a, .int .i64 0], by simp [results, Tryd.results13, go_sem], ?_, hB3.trans hb⟩
      have hown : ∀ vv n xs, W.ownsRow w_4.heap.size 3 1 vv n xs → W'.ownsRow w.heap.size 3 1 vv n xs := fun vv n xs k => by
        refine own_down (b := w_4.heap.size) ⟨k.1, ?_⟩ gw
        rcases k.2 with e1 | ⟨g, cap, cur, e1, e2, e3, e4⟩
        · exact .inl e1
        · have hgD : g ≠ D := fun e => by
            subst e
            rw [HKD.out] at e3
            cases e3
          exact .inr ⟨g, cap, cur, e1, e2, (hk g (by simp; exact Ne.symm hgD)).trans e3, e4⟩
      have HP2 := HP.out
      generalize bst (okB v) (woB v) (allS ((p.hn : Int) - 1) p.ln) = r at HP2 ⊢
      cases r with
      | none =>
        obtain ⟨rfl, rfl, rfl, rfl⟩ := HP2
        exact rfl
      | some s =>
        obtain ⟨rfl, rfl, ⟨A, rfl⟩, hox⟩ := HP2
        exact ⟨A, c, rfl, hown _ _ _ hox⟩
end Go.Proofs.YtdlohfglmagneaaDoor
