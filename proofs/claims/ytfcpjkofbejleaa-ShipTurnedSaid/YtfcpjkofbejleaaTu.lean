/- ShipTurned. -/
import Derived.Test.YtfcpjkofbejleaaTua
set_option linter.unusedSimpArgs false
set_option linter.unusedVariables false
namespace Go.Proofs.Ytfcpjkofbejleaa
open Go Go.RowKit
attribute [local go_sem] eq41
/-- What a stowage that may be missing is worth. -/
def bwo (wo : List Int → Int) (r : Option (List Int)) : Int := match r with | none => -1 | some s => wo s
theorem best_row {w w' : World} {n : Nat} {wo : List Int → Int} {r : Option (List Int)} {e : Ending} (h : BestPost w n wo r e w') (hr : ∀ s, r = some s → s.length = n) : ∃ (A : Option Addr) (c : Nat), e = .returned (.tuple #[.slice A (r.getD []).length c, .int .i64 (bwo wo r), .int .i64 0]) ∧ Sl w' w'.heap.size 1 A (inr (r.getD [])) := by
  unfold BestPost at h
  cases r with
  | none => exact ⟨_, _, h, fun k r hr => by simp [inr] at hr⟩
  | some s =>
    obtain ⟨A, c, e, o⟩ := h
    have hl := hr s rfl
    exact ⟨_, _, by simp only [Option.getD_some]; rw [hl]; exact e, own_inr o hl⟩
theorem best_len {v : Vg} (ho : v.Ok) : ∀ s, bestM v = some s → s.length = v.ls.length := fun s h => (allS_inH ho (bestM_some ho h).1).1
set_option maxRecDepth 100000 in
set_option maxHeartbeats 8000000 in
theorem shipTurned_run (A : Option Addr) (n c : Nat) (L : List Int) (w : World) (hn : n ≤ 9000000000000000000) (hl : L.length = n) (hA : Sl w w.heap.size 1 A (ints L)) : Calls Try.prog 12 #[.slice A n c] w fun e w' => e = .returned (.bool true) ∧ Below w.heap.size w w' := by
  have HL := Lib.hid hl
  clear hl
  obtain ⟨i3, hi3, hz3, hs3, iy3⟩ := info_parts info3'
  go_enter Try.func12, Try.ntmps12
  go_upto_region 3 with (first
    | (go_at_call 16; refine (feedOf_any A n c L _ hn HL.out hA).mono ?_; rintro e w1 ⟨⟨g, rfl, hg0, hfd⟩, hb1⟩)
    | (go_at_call 18; have U1 := (FT.self hfd).alloc (.cells #[.int .i64 4, .int .i64 30] 3); refine (either_any g w1.heap.size 2 #[.int .i64 4, .int .i64 30] (fun z => z = 4 ∨ z = 30) _ U1.2 (Bx.new w1 3 _) (by have := hfd.lt; omega) (by omega) (by omega) (bx2 _ (by omega) (by omega))).mono ?_; rintro e w2 ⟨⟨T, rfl, hT⟩, hf2, hg2⟩; have U2 := U1.call hg2 hf2; clear hf2 hg2 U1)
    | (go_at_call 17; refine (voyageOf_any g 2 3 4 T _ U2.2 (by omega) (by omega) (by omega) (by omega) (by omega) (by omega) (by omega) (by omega)).mono ?_; rintro e w3 ⟨⟨v, p, hsm, hFit, rfl, hV0⟩, hU3⟩; have U3 : FT g w1 w3 := ⟨grownF_trans U2.1 hU3.1, hU3.2⟩; rw [vcs_def]; clear hU3 U2)
    | fail)
  have hok := hsm.ok (by omega) (by omega) (by omega) (by omega)
  have hck := hsm.ck (by omega) (by omega) (by omega) (by omega)
  have hlf := hsm.lf
  have HSM := Lib.hid hsm
  have HOK := Lib.hid hok
  have HCK := Lib.hid hck
  have HLF := Lib.hid hlf
  have HFT := Lib.hid hFit
  have hln6 : p.ln ≤ 6 := by rw [← hV0.ll]; exact hok.l6
  have hsn4 : p.sn ≤ 4 := by rw [← hV0.sl]; exact hok.s4
  have hhn3 : p.hn ≤ 3 := by rw [← hV0.hl]; exact hok.h3
  have hhn1 : 1 ≤ p.hn := by rw [← hV0.hl]; exact hok.h1
  have B1 := (Below.refl w3.heap.size w3).alloc (Nat.le_refl _) (.cells #[.int .i64 v.li, .int .i64 v.un, .int .i64 v.tr, .slice p.HA p.hn p.hc, .int .i64 v.le, .slice p.SA p.sn p.sc, .slice p.LA p.ln p.lc] 26)
  have kO := Bx.new w3 26 #[.int .i64 v.li, .int .i64 v.un, .int .i64 v.tr, .slice p.HA p.hn p.hc, .int .i64 v.le, .slice p.SA p.sn p.sc, .slice p.LA p.ln p.lc]
  have hO := hV0.call B1
  have U4 := U3.alloc (.cells #[.int .i64 v.li, .int .i64 v.un, .int .i64 v.tr, .slice p.HA p.hn p.hc, .int .i64 v.le, .slice p.SA p.sn p.sc, .slice p.LA p.ln p.lc] 26)
  have hgl := U3.2.lt
  have hw13 := U3.size
  obtain ⟨V1, hV1⟩ : ∃ V, w3.alloc (.cells #[.int .i64 v.li, .int .i64 v.un, .int .i64 v.tr, .slice p.HA p.hn p.hc, .int .i64 v.le, .slice p.SA p.sn p.sc, .slice p.LA p.ln p.lc] 26) = V := ⟨_, rfl⟩
  rw [hV1] at kO hO U4 ⊢
  obtain ⟨bO, hbO⟩ : ∃ b, w3.heap.size = b := ⟨_, rfl⟩
  rw [hbO] at kO hgl ⊢
  have hgO : bO ≠ g := by omega
  clear hV1 hbO B1 hV0 U3 hsm hok hck hlf hFit hw13
  obtain ⟨l0, l1, l2, l3, l4, l5, l6, lf', lz⟩ := kO.seven
  go_upto_region 4 with (first
    | (go_at_call 19; refine (stowageOf_any g v p _ U4.2 HCK.out hO).mono ?_; rintro e V ⟨⟨SA, sc, s, rfl, hsl, hst, hSV⟩, hU5⟩; have U5 : FT g w1 V := ⟨grownF_trans U4.1 hU5.1, hU5.2⟩)
    | fail)
  have HSL := Lib.hid hsl
  have HST := Lib.hid hst
  have kV := hU5.bx kO hgO
  have hV := hU5.voy U4.2 hO
  have hBV := U5.be hb1 hg0
  have hFV := U5.2
  clear hb1 hfd U4 U5 hU5 l0 l1 l2 l3 l4 l5 l6 lf' lz kO hO hsl hst hgl
  have HHL := Lib.hid hV.hl
  have HSS := Lib.hid hV.sl
  have HLL := Lib.hid hV.ll
  have hVh := hV.hs
  obtain ⟨l0, l1, l2, l3, l4, l5, l6, lf', lz⟩ := kV.seven
  go_upto_region 5 with (first
    | (go_at_call 22; refine (copyVoyage_any v p _ HOK.out hV).mono ?_; rintro e y3 ⟨HA, hc, SA2, sc2, LA, lc, rs, rfl, oh, os, so, ap, ol, hq3⟩)
    | fail)
  clear l0 l1 l2 l3 l4 l5 l6 lf' lz
  obtain ⟨hq, rfl⟩ := own_some oh (by omega)
  have C0 : CV V y3.heap.size v.li v.un v.tr v.le v.hs v.ss v.ls (.slice (some ⟨hq, 0, none⟩) p.hn hc) (.slice SA2 p.sn sc2) (.slice LA p.ln lc) rs (y3.alloc (.cells #[.int .i64 v.li, .int .i64 v.un, .int .i64 v.tr, .slice (some ⟨hq, 0, none⟩) p.hn hc, .int .i64 v.le, .slice SA2 p.sn sc2, .slice LA p.ln lc] 26)) :=
    ⟨Bx.new _ _ _, by rw [HHL.out]; exact oh.alloc _, by rw [HSS.out]; exact os.alloc _, so.bel (bel1 _ _), ap, by rw [HLL.out]; exact ol.alloc _, hq3.alloc hq3.size _, hq3.size⟩
  have X0 := XV.of C0 hFV
  obtain ⟨q6, hq6⟩ : ∃ q, y3.heap.size = q := ⟨_, rfl⟩
  obtain ⟨U0, hU0⟩ : ∃ U, y3.alloc (.cells #[.int .i64 v.li, .int .i64 v.un, .int .i64 v.tr, .slice (some ⟨hq, 0, none⟩) p.hn hc, .int .i64 v.le, .slice SA2 p.sn sc2, .slice LA p.ln lc] 26) = U := ⟨_, rfl⟩
  rw [hU0] at X0 ⊢
  rw [hq6] at X0 ⊢
  clear hU0 hq6 C0 oh os so ap ol hq3
  go_wp2_with fail
  go_loopw [7] (fun iv wr => ∃ (i : Nat) (hs' : List Hd), iv = .int .i64 i ∧ i ≤ p.hn ∧ Swp v.hs hs' i ∧ hs'.length = p.hn ∧ XV g V q6 v.li v.un v.tr v.le hs' v.ss v.ls (.slice (some ⟨hq, 0, none⟩) p.hn hc) (.slice SA2 p.sn sc2) (.slice LA p.ln lc) rs wr) (fun iv _ => p.hn - (intOf iv).toNat)
  case atStart => exact ⟨0, v.hs, rfl, by omega, .start _, HHL.out, X0⟩
  case round =>
    clear X0
    obtain ⟨i, hs', rfl, hi, hsw, hln, X⟩ := hrel
    by_cases hin : i < p.hn
    · have hil : i < v.hs.length := by rw [HHL.out]; exact hin
      obtain ⟨vad, hHA, _, b0, b1, b2⟩ := hd_at hVh hil
      have hget := List.getElem?_eq_getElem hil
      generalize v.hs[i] = z at *
      have HZ := Lib.hid hget
      have HZI := Lib.hid (show hs'[i]? = some z by have := hsw.row i z hget; rwa [if_neg (by omega)] at this)
      have HHA := Lib.hid hHA
      have HSW := Lib.hid hsw
      have HLN := Lib.hid hln
      have kX := X.k
      have haq : (⟨hq, 0, none⟩ : Addr).add (i * 3) = ⟨hq, i * 3, none⟩ := by unfold Addr.add; split <;> simp_all
      have hiw : IntKind.i64.wrap ((i : Int) + 1) = (i : Int) + 1 := IntWalk.i64_in _ (by omega)
      clear hget hHA hil hsw hln b0
      obtain ⟨l0, l1, l2, l3, l4, l5, l6, lf', lz⟩ := kX.seven
      go_wp2_with fail
      clear l0 l1 l2 l3 l4 l5 l6 lf' lz
      refine AnyG.startC (by as_aux_lemma => kernel_rfl) ?_
      refine AnyG.takeP (i := 0) (v := ?_) rfl (by as_aux_lemma => kernel_rfl) (fun _ _ _ h => h) rfl ?_ ?_
      rotate_left
      · (intro w'; go_simp; try with_reducible rfl)
      try simp only [Act.put, List.getElem_toArray, List.getElem_cons_succ, List.getElem_cons_zero, List.setIfInBounds_toArray, List.set_cons_zero, List.set_cons_succ]
      refine AnyG.takeP (i := 2) (v := ?_) rfl (by as_aux_lemma => kernel_rfl) (fun _ _ _ h => h) rfl ?_ ?_
      rotate_left
      · (intro w'; go_simp; try with_reducible rfl)
      try simp only [Act.put, List.getElem_toArray, List.getElem_cons_succ, List.getElem_cons_zero, List.setIfInBounds_toArray, List.set_cons_zero, List.set_cons_succ]
      refine AnyG.takeP (i := 3) (v := ?_) rfl (by as_aux_lemma => kernel_rfl) (fun _ _ _ h => h) rfl ?_ ?_
      rotate_left
      · (intro w'; go_simp; try with_reducible rfl)
      try simp only [Act.put, List.getElem_toArray, List.getElem_cons_succ, List.getElem_cons_zero, List.setIfInBounds_toArray, List.set_cons_zero, List.set_cons_succ]
      refine AnyG.takeP (i := 5) (v := ?_) rfl (by as_aux_lemma => kernel_rfl) (fun _ _ _ h => h) rfl ?_ ?_
      rotate_left
      · (intro w'; go_simp; try with_reducible rfl)
      try simp only [Act.put, List.getElem_toArray, List.getElem_cons_succ, List.getElem_cons_zero, List.setIfInBounds_toArray, List.set_cons_zero, List.set_cons_succ]
      refine AnyG.takeP (i := 6) (v := ?_) rfl (by as_aux_lemma => kernel_rfl) (fun _ _ _ h => h) rfl ?_ ?_
      rotate_left
      · (intro w'; go_simp; try with_reducible rfl)
      try simp only [Act.put, List.getElem_toArray, List.getElem_cons_succ, List.getElem_cons_zero, List.setIfInBounds_toArray, List.set_cons_zero, List.set_cons_succ]
      refine AnyG.takeP (i := 8) (v := ?_) rfl (by as_aux_lemma => kernel_rfl) (fun _ _ _ h => h) rfl ?_ ?_
      rotate_left
      · (intro w'; go_simp; try with_reducible rfl)
      try simp only [Act.put, List.getElem_toArray, List.getElem_cons_succ, List.getElem_cons_zero, List.setIfInBounds_toArray, List.set_cons_zero, List.set_cons_succ]
      refine AnyG.takeP (i := 12) (v := ?_) rfl (by as_aux_lemma => kernel_rfl) (fun _ _ _ h => h) rfl ?_ ?_
      rotate_left
      · (intro w'; go_simp; try with_reducible rfl)
      try simp only [Act.put, List.getElem_toArray, List.getElem_cons_succ, List.getElem_cons_zero, List.setIfInBounds_toArray, List.set_cons_zero, List.set_cons_succ]
      refine AnyG.takeP (i := 14) (v := ?_) rfl (by as_aux_lemma => kernel_rfl) (fun _ _ _ h => h) rfl ?_ ?_
      rotate_left
      · (intro w'; go_simp; try with_reducible rfl)
      try simp only [Act.put, List.getElem_toArray, List.getElem_cons_succ, List.getElem_cons_zero, List.setIfInBounds_toArray, List.set_cons_zero, List.set_cons_succ]
      refine AnyG.enter (fun w' : World => Bx w' q6 26 #[.int .i64 v.li, .int .i64 v.un, .int .i64 v.tr, .slice (some ⟨hq, 0, none⟩) p.hn hc, .int .i64 v.le, .slice SA2 p.sn sc2, .slice LA p.ln lc] ∧ FT g V w') (fun i => i != 21 && i != 22 && i != 23) ?_
      have hS : (fun w' : World => Bx w' q6 26 #[.int .i64 v.li, .int .i64 v.un, .int .i64 v.tr, .slice (some ⟨hq, 0, none⟩) p.hn hc, .int .i64 v.le, .slice SA2 p.sn sc2, .slice LA p.ln lc] ∧ FT g V w') (World.drew _) := ⟨X.k.drew, X.ft.drew⟩
      refine AnyG.takeC (i := 1) (v := ?_) rfl (by as_aux_lemma => kernel_rfl) (fun _ _ _ h => h) rfl ?_ hS ?_
      rotate_left
      · (intro w' hSw; (try dsimp only at hSw); obtain ⟨x0, x1, x2, x3, x4, x5, x6, xf, xz⟩ := hSw.1.seven; go_simp; try with_reducible rfl)
      try simp only [Act.put, List.getElem_toArray, List.getElem_cons_succ, List.getElem_cons_zero, List.setIfInBounds_toArray, List.set_cons_zero, List.set_cons_succ]
      refine AnyG.takeC (i := 4) (v := ?_) rfl (by as_aux_lemma => kernel_rfl) (fun _ _ _ h => h) rfl ?_ hS ?_
      rotate_left
      · (intro w' hSw; (try dsimp only at hSw); obtain ⟨x0, x1, x2, x3, x4, x5, x6, xf, xz⟩ := hSw.1.seven; go_simp; try with_reducible rfl)
      try simp only [Act.put, List.getElem_toArray, List.getElem_cons_succ, List.getElem_cons_zero, List.setIfInBounds_toArray, List.set_cons_zero, List.set_cons_succ]
      refine AnyG.takeC (i := 7) (v := ?_) rfl (by as_aux_lemma => kernel_rfl) (fun _ _ _ h => h) rfl ?_ hS ?_
      rotate_left
      · (intro w' hSw; (try dsimp only at hSw); obtain ⟨x0, x1, x2, x3, x4, x5, x6, xf, xz⟩ := (hSw.2.bx kV hgO).seven; rw [HHA.out] at x3; go_simp; try with_reducible rfl)
      try simp only [Act.put, List.getElem_toArray, List.getElem_cons_succ, List.getElem_cons_zero, List.setIfInBounds_toArray, List.set_cons_zero, List.set_cons_succ]
      refine AnyG.takeC (i := 9) (v := ?_) rfl (by as_aux_lemma => kernel_rfl) (fun _ _ _ h => h) rfl ?_ hS ?_
      rotate_left
      · (intro w' hSw; (try dsimp only at hSw); go_simp; try with_reducible rfl)
      try simp only [Act.put, List.getElem_toArray, List.getElem_cons_succ, List.getElem_cons_zero, List.setIfInBounds_toArray, List.set_cons_zero, List.set_cons_succ]
      refine AnyG.takeC (i := 10) (v := ?_) rfl (by as_aux_lemma => kernel_rfl) (fun _ _ _ h => h) rfl ?_ hS ?_
      rotate_left
      · (intro w' hSw; (try dsimp only at hSw); go_simp; try with_reducible rfl)
      try simp only [Act.put, List.getElem_toArray, List.getElem_cons_succ, List.getElem_cons_zero, List.setIfInBounds_toArray, List.set_cons_zero, List.set_cons_succ]
      refine AnyG.takeC (i := 11) (v := ?_) rfl (by as_aux_lemma => kernel_rfl) (fun _ _ _ h => h) rfl ?_ hS ?_
      rotate_left
      · (intro w' hSw; (try dsimp only at hSw); have p0 := hSw.2.cell hFV b2 (fun _ e => by cases e); go_simp; try with_reducible rfl)
      try simp only [Act.put, List.getElem_toArray, List.getElem_cons_succ, List.getElem_cons_zero, List.setIfInBounds_toArray, List.set_cons_zero, List.set_cons_succ]
      refine AnyG.takeC (i := 13) (v := ?_) rfl (by as_aux_lemma => kernel_rfl) (fun _ _ _ h => h) rfl ?_ hS ?_
      rotate_left
      · (intro w' hSw; (try dsimp only at hSw); obtain ⟨x0, x1, x2, x3, x4, x5, x6, xf, xz⟩ := (hSw.2.bx kV hgO).seven; rw [HHA.out] at x3; go_simp; try with_reducible rfl)
      try simp only [Act.put, List.getElem_toArray, List.getElem_cons_succ, List.getElem_cons_zero, List.setIfInBounds_toArray, List.set_cons_zero, List.set_cons_succ]
      refine AnyG.takeC (i := 15) (v := ?_) rfl (by as_aux_lemma => kernel_rfl) (fun _ _ _ h => h) rfl ?_ hS ?_
      rotate_left
      · (intro w' hSw; (try dsimp only at hSw); go_simp; try with_reducible rfl)
      try simp only [Act.put, List.getElem_toArray, List.getElem_cons_succ, List.getElem_cons_zero, List.setIfInBounds_toArray, List.set_cons_zero, List.set_cons_succ]
      refine AnyG.takeC (i := 16) (v := ?_) rfl (by as_aux_lemma => kernel_rfl) (fun _ _ _ h => h) rfl ?_ hS ?_
      rotate_left
      · (intro w' hSw; (try dsimp only at hSw); go_simp; try with_reducible rfl)
      try simp only [Act.put, List.getElem_toArray, List.getElem_cons_succ, List.getElem_cons_zero, List.setIfInBounds_toArray, List.set_cons_zero, List.set_cons_succ]
      refine AnyG.takeC (i := 17) (v := ?_) rfl (by as_aux_lemma => kernel_rfl) (fun _ _ _ h => h) rfl ?_ hS ?_
      rotate_left
      · (intro w' hSw; (try dsimp only at hSw); have p0 := hSw.2.cell hFV b1 (fun _ e => by cases e); go_simp; try with_reducible rfl)
      try simp only [Act.put, List.getElem_toArray, List.getElem_cons_succ, List.getElem_cons_zero, List.setIfInBounds_toArray, List.set_cons_zero, List.set_cons_succ]
      refine AnyG.takeC (i := 18) (v := ?_) rfl (by as_aux_lemma => kernel_rfl) (fun _ _ _ h => h) rfl ?_ hS ?_
      rotate_left
      · (intro w' hSw; (try dsimp only at hSw); go_simp; try with_reducible rfl)
      try simp only [Act.put, List.getElem_toArray, List.getElem_cons_succ, List.getElem_cons_zero, List.setIfInBounds_toArray, List.set_cons_zero, List.set_cons_succ]
      refine AnyG.takeC (i := 19) (v := ?_) rfl (by as_aux_lemma => kernel_rfl) (fun _ _ _ h => h) rfl ?_ hS ?_
      rotate_left
      · (intro w' hSw; (try dsimp only at hSw); go_simp; try with_reducible rfl)
      try simp only [Act.put, List.getElem_toArray, List.getElem_cons_succ, List.getElem_cons_zero, List.setIfInBounds_toArray, List.set_cons_zero, List.set_cons_succ]
      refine AnyG.one (i := 20) (by as_aux_lemma => kernel_rfl) rfl rfl ?_
      have XD := X.go (FT.self X.ft.2).drew
      have hzi := HZI.out
      obtain ⟨p0, p1, p2, pf⟩ := hold_cells XD.oh hzi
      go_simp
      have O1 := hold_store XD.oh HLN.out hzi (j := 1) (z' := ⟨z.rm, z.st, z.st⟩) (u := .int .i64 z.st) (by decide) rfl
      have X1 := XD.put (grown_set _ hq (i * 3 + 1) (.int .i64 z.st)) O1
      clear p0 p1 p2 pf
      refine Onward.on ⟨X1.k, X1.ft⟩ (fun hS2 => ?_)
      clear hS
      have hS := hS2
      clear hS2
      try simp only [Act.put, List.getElem_toArray, List.getElem_cons_succ, List.getElem_cons_zero, List.setIfInBounds_toArray, List.set_cons_zero, List.set_cons_succ]
      refine AnyG.one (i := 21) (by as_aux_lemma => kernel_rfl) rfl rfl ?_
      go_simp
      refine Onward.last rfl ?_
      try simp only [Act.put, List.getElem_toArray, List.getElem_cons_succ, List.getElem_cons_zero, List.setIfInBounds_toArray, List.set_cons_zero, List.set_cons_succ]
      refine AnyG.one (i := 22) (by as_aux_lemma => kernel_rfl) rfl rfl ?_
      go_simp
      refine Onward.last rfl ?_
      try simp only [Act.put, List.getElem_toArray, List.getElem_cons_succ, List.getElem_cons_zero, List.setIfInBounds_toArray, List.set_cons_zero, List.set_cons_succ]
      refine AnyG.one (i := 23) (by as_aux_lemma => kernel_rfl) rfl rfl ?_
      have hz1 : (hs'.set i ⟨z.rm, z.st, z.st⟩)[i]? = some ⟨z.rm, z.st, z.st⟩ := List.getElem?_set_self (by rw [HLN.out]; exact hin)
      obtain ⟨p0, p1, p2, pf⟩ := hold_cells X.oh hzi
      go_simp
      have O2 := hold_store X1.oh (by rw [List.length_set]; exact HLN.out) hz1 (j := 2) (z' := sw z) (u := .int .i64 z.bw) (by decide) rfl
      have X2 := X1.put (grown_set _ hq (i * 3 + 2) (.int .i64 z.bw)) O2
      clear p0 p1 p2 pf
      refine Onward.last rfl ?_
      try simp only [Act.put, List.getElem_toArray, List.getElem_cons_succ, List.getElem_cons_zero, List.setIfInBounds_toArray, List.set_cons_zero, List.set_cons_succ]
      refine AnyG.done (by as_aux_lemma => kernel_rfl) ?_ _
      go_simp
      have hst2 := HSW.out.step (y := ⟨z.rm, z.st, z.st⟩) HZ.out
      obtain ⟨Z, hZ⟩ : ∃ Z, ((wr.setCell ⟨hq, i * 3 + 1, none⟩ (.int .i64 z.st)).setCell ⟨hq, i * 3 + 2, none⟩ (.int .i64 z.bw)).drew = Z := ⟨_, rfl⟩
      have X3 : XV g V q6 v.li v.un v.tr v.le ((hs'.set i ⟨z.rm, z.st, z.st⟩).set i (sw z)) v.ss v.ls (.slice (some ⟨hq, 0, none⟩) p.hn hc) (.slice SA2 p.sn sc2) (.slice LA p.ln lc) rs Z := by rw [← hZ]; exact X2
      try rw [hZ]
      clear hZ hS X1 X2 XD O1 O2
      go_wp2_with fail
      go_roundw
      case rel => exact ⟨i + 1, _, by go_num, by omega, hst2, by simp [HLN.out], X3⟩
      case measure => simp [intOf]; omega
    · obtain rfl : i = p.hn := by omega
      obtain rfl : hs' = v.hs.map sw := by rw [← HHL.out] at hsw; exact hsw.done
      have hxo : (turn v).Ok := turn_ok HOK.out
      have hxc := ok_ck hxo (fun s hs => (HSM.out.ss s hs).2.2.2.2.2.zero)
      have hxv : VoyAt wr wr.heap.size (turn v) ⟨some ⟨hq, 0, none⟩, p.hn, hc, SA2, p.sn, sc2, LA, p.ln, lc⟩ := X.voy rfl rfl rfl (by rw [List.length_map, HHL.out]) HSS.out HLL.out
      have hxf : Vp.Fit ⟨some ⟨hq, 0, none⟩, p.hn, hc, SA2, p.sn, sc2, LA, p.ln, lc⟩ := ⟨by dsimp only; omega, by dsimp only; omega, by dsimp only; omega⟩
      have HXC := Lib.hid hxc
      have HXF := Lib.hid hxf
      have HXL : Hid (LvFit (turn v)) := Lib.hid HLF.out
      have HSX := Lib.hid (turn_st hxc HST.out)
      have hL : abd (turn v).ls s = abd v.ls s := rfl
      have kv := X.ft.bx kV hgO
      have kx := X.k
      have hvv := X.ft.voy hFV hV
      have hss := X.ft.sl hFV hSV (inr_no _)
      have hBw := X.ft.be hBV hg0
      have hst := ckSt_ok HST.out
      have htb := tilt_bd HOK.out (inH_held hst.inh) (fun x hx => hx) (abd_six HOK.out s)
      obtain ⟨TL, hTL⟩ : ∃ y, tiltP v.hs (abd v.ls s) = y := ⟨_, rfl⟩
      obtain ⟨LV, hLV⟩ : ∃ y, lvlOk v TL = y := ⟨_, rfl⟩
      obtain ⟨B0, hB0⟩ : ∃ y, deepB v (abd v.ls s) true = y := ⟨_, rfl⟩
      obtain ⟨B1, hB1⟩ : ∃ y, deepB v (abd v.ls s) false = y := ⟨_, rfl⟩
      obtain ⟨S0, hS0⟩ : ∃ y, deepS v (abd v.ls s) true = y := ⟨_, rfl⟩
      obtain ⟨S1, hS1⟩ : ∃ y, deepS v (abd v.ls s) false = y := ⟨_, rfl⟩
      obtain ⟨vd, hvd⟩ : ∃ y, verdM v.ss.length (salM v (abd v.ls s) true).length (salM v (abd v.ls s) false).length = y := ⟨_, rfl⟩
      obtain ⟨OV, hOV⟩ : ∃ y, overM v (abd v.ls s) = y := ⟨_, rfl⟩
      obtain ⟨n2, hn2⟩ : ∃ y, OV.length = y := ⟨_, rfl⟩
      have HXB0 := Lib.hid (show deepB (turn v) (abd (turn v).ls s) true = S0 by rw [hL, (turn_deep v _ true).1]; exact hS0)
      have HXB1 := Lib.hid (show deepB (turn v) (abd (turn v).ls s) false = S1 by rw [hL, (turn_deep v _ false).1]; exact hS1)
      have HXS0 := Lib.hid (show deepS (turn v) (abd (turn v).ls s) true = B0 by rw [hL, (turn_deep v _ true).2]; exact hB0)
      have HXS1 := Lib.hid (show deepS (turn v) (abd (turn v).ls s) false = B1 by rw [hL, (turn_deep v _ false).2]; exact hB1)
      have HXT := Lib.hid (show tiltP (turn v).hs (abd (turn v).ls s) = (-TL.2, -TL.1) by rw [hL, turn_tilt, hTL])
      have HXLV := Lib.hid (show lvlOk (turn v) (-TL.2, -TL.1) = LV by rw [turn_lvl]; exact hLV)
      have HXVD := Lib.hid (show verdM (turn v).ss.length (salM (turn v) (abd (turn v).ls s) true).length (salM (turn v) (abd (turn v).ls s) false).length = vd by rw [hL, turn_sal, turn_sal]; exact hvd)
      have HXOV := Lib.hid (show overM (turn v) (abd (turn v).ls s) = OV by unfold overM; rw [hL, turn_sal, turn_sal]; exact hOV)
      have hol : n2 ≤ 4 := by
        rw [← hn2, ← hOV, overM_len HOK.out (inH_held hst.inh)]
        exact Nat.le_trans (salM_len v _ false) HOK.out.s4
      rw [hTL] at htb
      have HTL := Lib.hid hTL
      have HLV := Lib.hid hLV
      have HB0 := Lib.hid hB0
      have HB1 := Lib.hid hB1
      have HS0 := Lib.hid hS0
      have HS1 := Lib.hid hS1
      have HVD := Lib.hid hvd
      have HOV := Lib.hid hOV
      have HN2 := Lib.hid hn2
      obtain ⟨t1, t2⟩ := TL
      dsimp only at htb
      try dsimp only at HXT HXLV
      obtain ⟨TT, hTT⟩ : ∃ x, (bestM v).getD [] = x := ⟨_, rfl⟩
      obtain ⟨bb, hbb⟩ : ∃ x, bwo (woB v) (bestM v) = x := ⟨_, rfl⟩
      obtain ⟨tn, htn⟩ : ∃ x, TT.length = x := ⟨_, rfl⟩
      have htn6 : tn ≤ 6 := by
        rw [← htn, ← hTT]
        cases hb : bestM v with
        | none => simp
        | some m => simp only [Option.getD_some]; rw [best_len HOK.out m hb]; exact HOK.out.l6
      have HBT := Lib.hid hTT
      have HBW := Lib.hid hbb
      have HTN := Lib.hid htn
      have HXBT := Lib.hid (show (bestM (turn v)).getD [] = TT by rw [turn_best]; exact hTT)
      have HXBW := Lib.hid (show bwo (woB (turn v)) (bestM (turn v)) = bb by rw [turn_best]; exact hbb)
      have wn1 : IntKind.i64.wrap (- -t1) = t1 := by rw [Int.neg_neg]; exact IntWalk.i64_in _ (by omega)
      have wn2 : IntKind.i64.wrap (- -t2) = t2 := by rw [Int.neg_neg]; exact IntWalk.i64_in _ (by omega)
      have wn3 : IntKind.i64.wrap t1 = t1 := IntWalk.i64_in _ (by omega)
      have wn4 : IntKind.i64.wrap t2 = t2 := IntWalk.i64_in _ (by omega)
      clear hTT hbb htn
      obtain ⟨W, rfl⟩ : ∃ W, W = wr := ⟨_, rfl⟩
      clear hxo hxc hxf hL hst hTL hLV hB0 hB1 hS0 hS1 hvd hOV hn2 X hsw hln kV hV hSV hFV hBV hVh hi hin
      obtain ⟨l0, l1, l2, l3, l4, l5, l6, lf', lz⟩ := kx.seven
      go_upto_region 9 with fail
      clear l0 l1 l2 l3 l4 l5 l6 lf' lz
      obtain ⟨l0, l1, l2, l3, l4, l5, l6, lf', lz⟩ := kv.seven
      go_upto_region 10 with (first
        | (go_at_call 23; refine (drafts_any v p SA p.ln sc s _ HFT.out HLF.out hvv hss HSL.out (by omega)).mono ?_; rintro e w9 ⟨rfl, hb⟩; rw [if_pos HST.out, HB0.out, HB1.out, HS0.out, HS1.out])
        | fail)
      clear l0 l1 l2 l3 l4 l5 l6 lf' lz
      have hc2 := (hb.alloc hb.size (.cells #[.int .i64 B0, .int .i64 B1] 41)).alloc (by have := hb.size; simp; omega) (.cells #[.int .i64 S0, .int .i64 S1] 41)
      replace kv := kv.call hc2
      replace kx := kx.call hc2
      replace hvv := hvv.call hc2
      replace hxv := hxv.call hc2
      replace hss := hss.call hc2
      replace hBw := hBw.trans (hc2.mono hBw.size)
      have k8 := (Bx.new w9 41 #[.int .i64 B0, .int .i64 B1]).alloc (.cells #[.int .i64 S0, .int .i64 S1] 41)
      have k9 := Bx.at (w9.alloc (.cells #[.int .i64 B0, .int .i64 B1] 41)) 41 #[.int .i64 S0, .int .i64 S1] (n := w9.heap.size + 1) (by simp)
      obtain ⟨Zw9, hZ⟩ : ∃ Z, (w9.alloc (.cells #[.int .i64 B0, .int .i64 B1] 41)).alloc (.cells #[.int .i64 S0, .int .i64 S1] 41) = Z := ⟨_, rfl⟩
      rw [hZ] at kv kx hvv hxv hss hBw k8 k9 ⊢
      obtain ⟨pk8, hp⟩ : ∃ q, w9.heap.size = q := ⟨_, rfl⟩
      rw [hp] at k8 k9 ⊢
      obtain ⟨pk9, hp2⟩ : ∃ q, pk8 + 1 = q := ⟨_, rfl⟩
      rw [hp2] at k9 ⊢
      clear hZ hp hp2 hb hc2
      obtain ⟨l0, l1, l2, l3, l4, l5, l6, lf', lz⟩ := kx.seven
      go_upto_region 11 with (first
        | (go_at_call 23; refine (drafts_any (turn v) ⟨some ⟨hq, 0, none⟩, p.hn, hc, SA2, p.sn, sc2, LA, p.ln, lc⟩ SA p.ln sc s _ HXF.out HXL.out hxv hss HSL.out (by omega)).mono ?_; rintro e w10 ⟨rfl, hb⟩; rw [if_pos HSX.out, HXB0.out, HXB1.out, HXS0.out, HXS1.out])
        | fail)
      clear l0 l1 l2 l3 l4 l5 l6 lf' lz
      have hc2 := (hb.alloc hb.size (.cells #[.int .i64 S0, .int .i64 S1] 41)).alloc (by have := hb.size; simp; omega) (.cells #[.int .i64 B0, .int .i64 B1] 41)
      replace kv := kv.call hc2
      replace kx := kx.call hc2
      replace hvv := hvv.call hc2
      replace hxv := hxv.call hc2
      replace hss := hss.call hc2
      replace hBw := hBw.trans (hc2.mono hBw.size)
      replace k8 := k8.call hc2
      replace k9 := k9.call hc2
      have k11 := (Bx.new w10 41 #[.int .i64 S0, .int .i64 S1]).alloc (.cells #[.int .i64 B0, .int .i64 B1] 41)
      have k12 := Bx.at (w10.alloc (.cells #[.int .i64 S0, .int .i64 S1] 41)) 41 #[.int .i64 B0, .int .i64 B1] (n := w10.heap.size + 1) (by simp)
      obtain ⟨Zw10, hZ⟩ : ∃ Z, (w10.alloc (.cells #[.int .i64 S0, .int .i64 S1] 41)).alloc (.cells #[.int .i64 B0, .int .i64 B1] 41) = Z := ⟨_, rfl⟩
      rw [hZ] at kv kx hvv hxv hss hBw k8 k9 k11 k12 ⊢
      obtain ⟨pk11, hp⟩ : ∃ q, w10.heap.size = q := ⟨_, rfl⟩
      rw [hp] at k11 k12 ⊢
      obtain ⟨pk12, hp2⟩ : ∃ q, pk11 + 1 = q := ⟨_, rfl⟩
      rw [hp2] at k12 ⊢
      clear hZ hp hp2 hb hc2
      obtain ⟨l0, l1, l2, l3, l4, l5, l6, lf', lz⟩ := kv.seven
      go_upto_region 12 with (first
        | (go_at_call 25; refine (level_any v p SA p.ln sc s _ HFT.out HLF.out hvv hss HSL.out (by omega)).mono ?_; rintro e w11 ⟨rfl, hb⟩; rw [if_pos HST.out, HTL.out, HLV.out])
        | fail)
      clear l0 l1 l2 l3 l4 l5 l6 lf' lz
      try dsimp only
      have hc2 := hb.alloc hb.size (.cells #[.int .i64 t1, .int .i64 t2] 41)
      replace kv := kv.call hc2
      replace kx := kx.call hc2
      replace hvv := hvv.call hc2
      replace hxv := hxv.call hc2
      replace hss := hss.call hc2
      replace hBw := hBw.trans (hc2.mono hBw.size)
      replace k8 := k8.call hc2
      replace k9 := k9.call hc2
      replace k11 := k11.call hc2
      replace k12 := k12.call hc2
      have k15 := Bx.new w11 41 #[.int .i64 t1, .int .i64 t2]
      obtain ⟨Zw11, hZ⟩ : ∃ Z, w11.alloc (.cells #[.int .i64 t1, .int .i64 t2] 41) = Z := ⟨_, rfl⟩
      rw [hZ] at kv kx hvv hxv hss hBw k8 k9 k11 k12 k15 ⊢
      obtain ⟨pk15, hp⟩ : ∃ q, w11.heap.size = q := ⟨_, rfl⟩
      rw [hp] at k15 ⊢
      clear hZ hp hb hc2
      obtain ⟨l0, l1, l2, l3, l4, l5, l6, lf', lz⟩ := kx.seven
      go_upto_region 13 with (first
        | (go_at_call 25; refine (level_any (turn v) ⟨some ⟨hq, 0, none⟩, p.hn, hc, SA2, p.sn, sc2, LA, p.ln, lc⟩ SA p.ln sc s _ HXF.out HXL.out hxv hss HSL.out (by omega)).mono ?_; rintro e w12 ⟨rfl, hb⟩; rw [if_pos HSX.out, HXT.out, HXLV.out])
        | fail)
      clear l0 l1 l2 l3 l4 l5 l6 lf' lz
      try dsimp only
      have hc2 := hb.alloc hb.size (.cells #[.int .i64 (-t2), .int .i64 (-t1)] 41)
      replace kv := kv.call hc2
      replace kx := kx.call hc2
      replace hvv := hvv.call hc2
      replace hxv := hxv.call hc2
      replace hss := hss.call hc2
      replace hBw := hBw.trans (hc2.mono hBw.size)
      replace k8 := k8.call hc2
      replace k9 := k9.call hc2
      replace k11 := k11.call hc2
      replace k12 := k12.call hc2
      replace k15 := k15.call hc2
      have k18 := Bx.new w12 41 #[.int .i64 (-t2), .int .i64 (-t1)]
      obtain ⟨Zw12, hZ⟩ : ∃ Z, w12.alloc (.cells #[.int .i64 (-t2), .int .i64 (-t1)] 41) = Z := ⟨_, rfl⟩
      rw [hZ] at kv kx hvv hxv hss hBw k8 k9 k11 k12 k15 k18 ⊢
      obtain ⟨pk18, hp⟩ : ∃ q, w12.heap.size = q := ⟨_, rfl⟩
      rw [hp] at k18 ⊢
      clear hZ hp hb hc2
      obtain ⟨l0, l1, l2, l3, l4, l5, l6, lf', lz⟩ := kv.seven
      go_upto_region 14 with (first
        | (go_at_call 33; refine (sail33_any v p SA p.ln sc s _ HFT.out HLF.out hvv hss HSL.out (by omega)).mono ?_; rintro e w13 ⟨hp, hb⟩; rw [if_pos HST.out, HVD.out, HOV.out, HN2.out] at hp; obtain ⟨Xgr1, cgr1, rfl, ogr1⟩ := hp)
        | fail)
      clear l0 l1 l2 l3 l4 l5 l6 lf' lz
      replace kv := kv.call hb
      replace kx := kx.call hb
      replace hvv := hvv.call hb
      replace hxv := hxv.call hb
      replace hss := hss.call hb
      replace hBw := hBw.trans (hb.mono hBw.size)
      replace k8 := k8.call hb
      replace k9 := k9.call hb
      replace k11 := k11.call hb
      replace k12 := k12.call hb
      replace k15 := k15.call hb
      replace k18 := k18.call hb
      have gr1 := own_gnr ogr1 HN2.out
      clear hb ogr1
      obtain ⟨l0, l1, l2, l3, l4, l5, l6, lf', lz⟩ := kx.seven
      go_upto_region 15 with (first
        | (go_at_call 33; refine (sail33_any (turn v) ⟨some ⟨hq, 0, none⟩, p.hn, hc, SA2, p.sn, sc2, LA, p.ln, lc⟩ SA p.ln sc s _ HXF.out HXL.out hxv hss HSL.out (by omega)).mono ?_; rintro e w14 ⟨hp, hb⟩; rw [if_pos HSX.out, HXVD.out, HXOV.out, HN2.out] at hp; obtain ⟨Xgr2, cgr2, rfl, ogr2⟩ := hp)
        | fail)
      clear l0 l1 l2 l3 l4 l5 l6 lf' lz
      replace kv := kv.call hb
      replace kx := kx.call hb
      replace hvv := hvv.call hb
      replace hxv := hxv.call hb
      replace hss := hss.call hb
      replace hBw := hBw.trans (hb.mono hBw.size)
      replace k8 := k8.call hb
      replace k9 := k9.call hb
      replace k11 := k11.call hb
      replace k12 := k12.call hb
      replace k15 := k15.call hb
      replace k18 := k18.call hb
      replace gr1 := gr1.call hb
      have gr2 := own_gnr ogr2 HN2.out
      clear hb ogr2
      obtain ⟨l0, l1, l2, l3, l4, l5, l6, lf', lz⟩ := kv.seven
      go_upto_region 16 with (first
        | (go_at_call 36; refine (best_any v p _ HFT.out HLF.out hvv).mono ?_; rintro e w15 ⟨hp, hb⟩; rw [if_pos HCK.out] at hp; obtain ⟨Xir1, cir1, he, ir1⟩ := best_row hp (by intro s hs; rw [best_len HOK.out s hs, HLL.out]); rw [HBT.out] at ir1; rw [HBT.out, HBW.out, HTN.out] at he; subst he)
        | fail)
      clear l0 l1 l2 l3 l4 l5 l6 lf' lz
      replace kv := kv.call hb
      replace kx := kx.call hb
      replace hvv := hvv.call hb
      replace hxv := hxv.call hb
      replace hss := hss.call hb
      replace hBw := hBw.trans (hb.mono hBw.size)
      replace k8 := k8.call hb
      replace k9 := k9.call hb
      replace k11 := k11.call hb
      replace k12 := k12.call hb
      replace k15 := k15.call hb
      replace k18 := k18.call hb
      replace gr1 := gr1.call hb
      replace gr2 := gr2.call hb
      clear hb hp
      go_upto_region 16 with fail
      go_cut [29, 30, 31] from 32 to 126 (fun v29 v30 v31 x => ∃ (Xi : Option Addr) (ci : Nat), v29 = .slice Xi tn ci ∧ v30 = .int .i64 bb ∧ v31 = .int .i64 0 ∧ Sl x x.heap.size 1 Xi (inr TT) ∧ Below w15.heap.size w15 x)
      case first =>
        obtain ⟨l0, l1, l2, l3, l4, l5, l6, lf', lz⟩ := kx.seven
        go_wp2_with (first
          | (go_at_call 36; refine (best_any (turn v) ⟨some ⟨hq, 0, none⟩, p.hn, hc, SA2, p.sn, sc2, LA, p.ln, lc⟩ _ HXF.out HXL.out hxv).mono ?_; rintro e w16 ⟨hp, hb⟩; rw [if_pos HXC.out] at hp; obtain ⟨Xir2, cir2, he, ir2⟩ := best_row hp (by intro s hs; rw [turn_best] at hs; rw [best_len HOK.out s hs, HLL.out]); rw [HXBT.out] at ir2; rw [HXBT.out, HXBW.out, HTN.out] at he; subst he)
          | fail)
        go_meet
        exact ⟨Xir2, cir2, rfl, rfl, rfl, ir2, hb⟩
      case rest =>
        obtain ⟨Xir2, cir2, rfl, rfl, rfl, ir2, hb⟩ := hcut
        replace hBw := hBw.trans (hb.mono hBw.size)
        replace k8 := k8.call hb
        replace k9 := k9.call hb
        replace k11 := k11.call hb
        replace k12 := k12.call hb
        replace k15 := k15.call hb
        replace k18 := k18.call hb
        replace gr1 := gr1.call hb
        replace gr2 := gr2.call hb
        replace ir1 := ir1.call hb
        obtain ⟨w16, hw16⟩ : ∃ x, wc = x := ⟨_, rfl⟩
        rw [hw16] at hBw k8 k9 k11 k12 k15 k18 gr1 gr2 ir1 ir2 ⊢
        clear hw16 hb kv kx hvv hxv hss
        go_upto_region 17 with fail
        simp only [List.append_eq, List.cons_append, List.nil_append]
        refine AnyG.startC (by as_aux_lemma => kernel_rfl) ?_
        refine AnyG.takeP (i := 0) (v := ?_) rfl (by as_aux_lemma => kernel_rfl) (fun _ _ _ h => h) rfl ?_ ?_
        rotate_left
        · (intro w'; go_simp; try with_reducible rfl)
        try simp only [Act.put, List.getElem_toArray, List.getElem_cons_succ, List.getElem_cons_zero, List.setIfInBounds_toArray, List.set_cons_zero, List.set_cons_succ]
        refine AnyG.takeP (i := 1) (v := ?_) rfl (by as_aux_lemma => kernel_rfl) (fun _ _ _ h => h) rfl ?_ ?_
        rotate_left
        · (intro w'; go_simp; try with_reducible rfl)
        try simp only [Act.put, List.getElem_toArray, List.getElem_cons_succ, List.getElem_cons_zero, List.setIfInBounds_toArray, List.set_cons_zero, List.set_cons_succ]
        refine AnyG.takeP (i := 2) (v := ?_) rfl (by as_aux_lemma => kernel_rfl) (fun _ _ _ h => h) rfl ?_ ?_
        rotate_left
        · (intro w'; go_simp; try with_reducible rfl)
        try simp only [Act.put, List.getElem_toArray, List.getElem_cons_succ, List.getElem_cons_zero, List.setIfInBounds_toArray, List.set_cons_zero, List.set_cons_succ]
        refine AnyG.enter (fun w' : World => Below w16.heap.size w16 w') (fun i => true) ?_
        have hS : (fun w' : World => Below w16.heap.size w16 w') (World.drew _) := (Below.refl _ _).drew
        refine AnyG.takeGC (i := 3) (v := ?_) rfl (by as_aux_lemma => kernel_rfl) (fun _ _ _ h => h) (by first | (simp [Region.wanted, yielded]; done) | simp [Region.wanted, yielded, undef]) ?_ hS ?_
        rotate_left
        · (intro w' hSw; (try dsimp only at hSw); go_simp; try with_reducible rfl)
        try simp only [Act.put, List.getElem_toArray, List.getElem_cons_succ, List.getElem_cons_zero, List.setIfInBounds_toArray, List.set_cons_zero, List.set_cons_succ]
        refine AnyG.takeGC (i := 4) (v := ?_) rfl (by as_aux_lemma => kernel_rfl) (fun _ _ _ h => h) (by first | (simp [Region.wanted, yielded]; done) | simp [Region.wanted, yielded, undef]) ?_ hS ?_
        rotate_left
        · (intro w' hSw; (try dsimp only at hSw); go_simp; try with_reducible rfl)
        try simp only [Act.put, List.getElem_toArray, List.getElem_cons_succ, List.getElem_cons_zero, List.setIfInBounds_toArray, List.set_cons_zero, List.set_cons_succ]
        refine AnyG.takeC (i := 5) (v := ?_) rfl (by as_aux_lemma => kernel_rfl) (fun _ _ _ h => h) rfl ?_ hS ?_
        rotate_left
        · (intro w' hSw; (try dsimp only at hSw); go_simp; try with_reducible rfl)
        try simp only [Act.put, List.getElem_toArray, List.getElem_cons_succ, List.getElem_cons_zero, List.setIfInBounds_toArray, List.set_cons_zero, List.set_cons_succ]
        refine AnyG.takeC (i := 6) (v := ?_) rfl (by as_aux_lemma => kernel_rfl) (fun _ _ _ h => h) rfl ?_ hS ?_
        rotate_left
        · (intro w' hSw; (try dsimp only at hSw); go_simp; try with_reducible rfl)
        try simp only [Act.put, List.getElem_toArray, List.getElem_cons_succ, List.getElem_cons_zero, List.setIfInBounds_toArray, List.set_cons_zero, List.set_cons_succ]
        refine AnyG.takeGC (i := 7) (v := ?_) rfl (by as_aux_lemma => kernel_rfl) (fun _ _ _ h => h) (by first | (simp [Region.wanted, yielded]; done) | simp [Region.wanted, yielded, undef]) ?_ hS ?_
        rotate_left
        · (intro w' hSw; (try dsimp only at hSw); go_simp; try with_reducible rfl)
        try simp only [Act.put, List.getElem_toArray, List.getElem_cons_succ, List.getElem_cons_zero, List.setIfInBounds_toArray, List.set_cons_zero, List.set_cons_succ]
        refine AnyG.takeGC (i := 8) (v := ?_) rfl (by as_aux_lemma => kernel_rfl) (fun _ _ _ h => h) (by first | (simp [Region.wanted, yielded]; done) | simp [Region.wanted, yielded, undef]) ?_ hS ?_
        rotate_left
        · (intro w' hSw; (try dsimp only at hSw); go_simp; try with_reducible rfl)
        try simp only [Act.put, List.getElem_toArray, List.getElem_cons_succ, List.getElem_cons_zero, List.setIfInBounds_toArray, List.set_cons_zero, List.set_cons_succ]
        refine AnyG.takeC (i := 9) (v := ?_) rfl (by as_aux_lemma => kernel_rfl) (fun _ _ _ h => h) rfl ?_ hS ?_
        rotate_left
        · (intro w' hSw; (try dsimp only at hSw); go_simp; try with_reducible rfl)
        try simp only [Act.put, List.getElem_toArray, List.getElem_cons_succ, List.getElem_cons_zero, List.setIfInBounds_toArray, List.set_cons_zero, List.set_cons_succ]
        refine AnyG.takeC (i := 10) (v := ?_) rfl (by as_aux_lemma => kernel_rfl) (fun _ _ _ h => h) rfl ?_ hS ?_
        rotate_left
        · (intro w' hSw; (try dsimp only at hSw); go_simp; try with_reducible rfl)
        try simp only [Act.put, List.getElem_toArray, List.getElem_cons_succ, List.getElem_cons_zero, List.setIfInBounds_toArray, List.set_cons_zero, List.set_cons_succ]
        refine AnyG.takeGC (i := 11) (v := ?_) rfl (by as_aux_lemma => kernel_rfl) (fun _ _ _ h => h) (by first | (simp [Region.wanted, yielded]; done) | simp [Region.wanted, yielded, undef]) ?_ hS ?_
        rotate_left
        · (intro w' hSw; (try dsimp only at hSw); go_simp; try with_reducible rfl)
        try simp only [Act.put, List.getElem_toArray, List.getElem_cons_succ, List.getElem_cons_zero, List.setIfInBounds_toArray, List.set_cons_zero, List.set_cons_succ]
        refine AnyG.takeGC (i := 12) (v := ?_) rfl (by as_aux_lemma => kernel_rfl) (fun _ _ _ h => h) (by first | (simp [Region.wanted, yielded]; done) | simp [Region.wanted, yielded, undef]) ?_ hS ?_
        rotate_left
        · (intro w' hSw; (try dsimp only at hSw); go_simp; try with_reducible rfl)
        try simp only [Act.put, List.getElem_toArray, List.getElem_cons_succ, List.getElem_cons_zero, List.setIfInBounds_toArray, List.set_cons_zero, List.set_cons_succ]
        refine AnyG.takeC (i := 13) (v := ?_) rfl (by as_aux_lemma => kernel_rfl) (fun _ _ _ h => h) rfl ?_ hS ?_
        rotate_left
        · (intro w' hSw; (try dsimp only at hSw); go_simp; try with_reducible rfl)
        try simp only [Act.put, List.getElem_toArray, List.getElem_cons_succ, List.getElem_cons_zero, List.setIfInBounds_toArray, List.set_cons_zero, List.set_cons_succ]
        refine AnyG.takeC (i := 14) (v := ?_) rfl (by as_aux_lemma => kernel_rfl) (fun _ _ _ h => h) rfl ?_ hS ?_
        rotate_left
        · (intro w' hSw; (try dsimp only at hSw); go_simp; try with_reducible rfl)
        try simp only [Act.put, List.getElem_toArray, List.getElem_cons_succ, List.getElem_cons_zero, List.setIfInBounds_toArray, List.set_cons_zero, List.set_cons_succ]
        refine AnyG.takeGC (i := 15) (v := ?_) rfl (by as_aux_lemma => kernel_rfl) (fun _ _ _ h => h) (by first | (simp [Region.wanted, yielded]; done) | simp [Region.wanted, yielded, undef]) ?_ hS ?_
        rotate_left
        · (intro w' hSw; (try dsimp only at hSw); go_simp; try with_reducible rfl)
        try simp only [Act.put, List.getElem_toArray, List.getElem_cons_succ, List.getElem_cons_zero, List.setIfInBounds_toArray, List.set_cons_zero, List.set_cons_succ]
        refine AnyG.takeGC (i := 16) (v := ?_) rfl (by as_aux_lemma => kernel_rfl) (fun _ _ _ h => h) (by first | (simp [Region.wanted, yielded]; done) | simp [Region.wanted, yielded, undef]) ?_ hS ?_
        rotate_left
        · (intro w' hSw; (try dsimp only at hSw); go_simp; try with_reducible rfl)
        try simp only [Act.put, List.getElem_toArray, List.getElem_cons_succ, List.getElem_cons_zero, List.setIfInBounds_toArray, List.set_cons_zero, List.set_cons_succ]
        refine AnyG.takeC (i := 17) (v := ?_) rfl (by as_aux_lemma => kernel_rfl) (fun _ _ _ h => h) rfl ?_ hS ?_
        rotate_left
        · (intro w' hSw; (try dsimp only at hSw); go_simp; try with_reducible rfl)
        try simp only [Act.put, List.getElem_toArray, List.getElem_cons_succ, List.getElem_cons_zero, List.setIfInBounds_toArray, List.set_cons_zero, List.set_cons_succ]
        refine AnyG.takeC (i := 18) (v := ?_) rfl (by as_aux_lemma => kernel_rfl) (fun _ _ _ h => h) rfl ?_ hS ?_
        rotate_left
        · (intro w' hSw; (try dsimp only at hSw); go_simp; try with_reducible rfl)
        try simp only [Act.put, List.getElem_toArray, List.getElem_cons_succ, List.getElem_cons_zero, List.setIfInBounds_toArray, List.set_cons_zero, List.set_cons_succ]
        refine AnyG.takeGC (i := 19) (v := ?_) rfl (by as_aux_lemma => kernel_rfl) (fun _ _ _ h => h) (by first | (simp [Region.wanted, yielded]; done) | simp [Region.wanted, yielded, undef]) ?_ hS ?_
        rotate_left
        · (intro w' hSw; (try dsimp only at hSw); go_simp; try with_reducible rfl)
        try simp only [Act.put, List.getElem_toArray, List.getElem_cons_succ, List.getElem_cons_zero, List.setIfInBounds_toArray, List.set_cons_zero, List.set_cons_succ]
        refine AnyG.takeGC (i := 20) (v := ?_) rfl (by as_aux_lemma => kernel_rfl) (fun _ _ _ h => h) (by first | (simp [Region.wanted, yielded]; done) | simp [Region.wanted, yielded, undef]) ?_ hS ?_
        rotate_left
        · (intro w' hSw; (try dsimp only at hSw); go_simp; try with_reducible rfl)
        try simp only [Act.put, List.getElem_toArray, List.getElem_cons_succ, List.getElem_cons_zero, List.setIfInBounds_toArray, List.set_cons_zero, List.set_cons_succ]
        refine AnyG.takeC (i := 21) (v := ?_) rfl (by as_aux_lemma => kernel_rfl) (fun _ _ _ h => h) rfl ?_ hS ?_
        rotate_left
        · (intro w' hSw; (try dsimp only at hSw); go_simp; try with_reducible rfl)
        try simp only [Act.put, List.getElem_toArray, List.getElem_cons_succ, List.getElem_cons_zero, List.setIfInBounds_toArray, List.set_cons_zero, List.set_cons_succ]
        refine AnyG.takeC (i := 22) (v := ?_) rfl (by as_aux_lemma => kernel_rfl) (fun _ _ _ h => h) rfl ?_ hS ?_
        rotate_left
        · (intro w' hSw; (try dsimp only at hSw); go_simp; try with_reducible rfl)
        try simp only [Act.put, List.getElem_toArray, List.getElem_cons_succ, List.getElem_cons_zero, List.setIfInBounds_toArray, List.set_cons_zero, List.set_cons_succ]
        refine AnyG.takeGC (i := 23) (v := ?_) rfl (by as_aux_lemma => kernel_rfl) (fun _ _ _ h => h) (by first | (simp [Region.wanted, yielded]; done) | simp [Region.wanted, yielded, undef]) ?_ hS ?_
        rotate_left
        · (intro w' hSw; (try dsimp only at hSw); go_simp; try with_reducible rfl)
        try simp only [Act.put, List.getElem_toArray, List.getElem_cons_succ, List.getElem_cons_zero, List.setIfInBounds_toArray, List.set_cons_zero, List.set_cons_succ]
        refine AnyG.takeGC (i := 24) (v := ?_) rfl (by as_aux_lemma => kernel_rfl) (fun _ _ _ h => h) (by first | (simp [Region.wanted, yielded]; done) | simp [Region.wanted, yielded, undef]) ?_ hS ?_
        rotate_left
        · (intro w' hSw; (try dsimp only at hSw); go_simp; try with_reducible rfl)
        try simp only [Act.put, List.getElem_toArray, List.getElem_cons_succ, List.getElem_cons_zero, List.setIfInBounds_toArray, List.set_cons_zero, List.set_cons_succ]
        refine AnyG.takeC (i := 25) (v := ?_) rfl (by as_aux_lemma => kernel_rfl) (fun _ _ _ h => h) rfl ?_ hS ?_
        rotate_left
        · (intro w' hSw; (try dsimp only at hSw); go_simp; try with_reducible rfl)
        try simp only [Act.put, List.getElem_toArray, List.getElem_cons_succ, List.getElem_cons_zero, List.setIfInBounds_toArray, List.set_cons_zero, List.set_cons_succ]
        refine AnyG.takeC (i := 26) (v := ?_) rfl (by as_aux_lemma => kernel_rfl) (fun _ _ _ h => h) rfl ?_ hS ?_
        rotate_left
        · (intro w' hSw; (try dsimp only at hSw); go_simp; try with_reducible rfl)
        try simp only [Act.put, List.getElem_toArray, List.getElem_cons_succ, List.getElem_cons_zero, List.setIfInBounds_toArray, List.set_cons_zero, List.set_cons_succ]
        refine AnyG.takeGC (i := 27) (v := ?_) rfl (by as_aux_lemma => kernel_rfl) (fun _ _ _ h => h) (by first | (simp [Region.wanted, yielded]; done) | simp [Region.wanted, yielded, undef]) ?_ hS ?_
        rotate_left
        · (intro w' hSw; (try dsimp only at hSw); go_simp; try with_reducible rfl)
        try simp only [Act.put, List.getElem_toArray, List.getElem_cons_succ, List.getElem_cons_zero, List.setIfInBounds_toArray, List.set_cons_zero, List.set_cons_succ]
        refine AnyG.takeGC (i := 28) (v := ?_) rfl (by as_aux_lemma => kernel_rfl) (fun _ _ _ h => h) (by first | (simp [Region.wanted, yielded]; done) | simp [Region.wanted, yielded, undef]) ?_ hS ?_
        rotate_left
        · (intro w' hSw; (try dsimp only at hSw); go_simp; try with_reducible rfl)
        try simp only [Act.put, List.getElem_toArray, List.getElem_cons_succ, List.getElem_cons_zero, List.setIfInBounds_toArray, List.set_cons_zero, List.set_cons_succ]
        refine AnyG.takeC (i := 29) (v := ?_) rfl (by as_aux_lemma => kernel_rfl) (fun _ _ _ h => h) rfl ?_ hS ?_
        rotate_left
        · (intro w' hSw; (try dsimp only at hSw); go_simp; try with_reducible rfl)
        try simp only [Act.put, List.getElem_toArray, List.getElem_cons_succ, List.getElem_cons_zero, List.setIfInBounds_toArray, List.set_cons_zero, List.set_cons_succ]
        refine AnyG.takeC (i := 30) (v := ?_) rfl (by as_aux_lemma => kernel_rfl) (fun _ _ _ h => h) rfl ?_ hS ?_
        rotate_left
        · (intro w' hSw; (try dsimp only at hSw); go_simp; try with_reducible rfl)
        try simp only [Act.put, List.getElem_toArray, List.getElem_cons_succ, List.getElem_cons_zero, List.setIfInBounds_toArray, List.set_cons_zero, List.set_cons_succ]
        refine AnyG.takeGC (i := 31) (v := ?_) rfl (by as_aux_lemma => kernel_rfl) (fun _ _ _ h => h) (by first | (simp [Region.wanted, yielded]; done) | simp [Region.wanted, yielded, undef]) ?_ hS ?_
        rotate_left
        · (intro w' hSw; (try dsimp only at hSw); obtain ⟨x0, x1, xf, xz⟩ := (k8.call hSw).two'; go_simp; try with_reducible rfl)
        try simp only [Act.put, List.getElem_toArray, List.getElem_cons_succ, List.getElem_cons_zero, List.setIfInBounds_toArray, List.set_cons_zero, List.set_cons_succ]
        refine AnyG.takeGC (i := 32) (v := ?_) rfl (by as_aux_lemma => kernel_rfl) (fun _ _ _ h => h) (by first | (simp [Region.wanted, yielded]; done) | simp [Region.wanted, yielded, undef]) ?_ hS ?_
        rotate_left
        · (intro w' hSw; (try dsimp only at hSw); obtain ⟨x0, x1, xf, xz⟩ := (k12.call hSw).two'; go_simp; try with_reducible rfl)
        try simp only [Act.put, List.getElem_toArray, List.getElem_cons_succ, List.getElem_cons_zero, List.setIfInBounds_toArray, List.set_cons_zero, List.set_cons_succ]
        refine AnyG.takeGC (i := 33) (v := ?_) rfl (by as_aux_lemma => kernel_rfl) (fun _ _ _ h => h) (by first | (simp [Region.wanted, yielded]; done) | simp [Region.wanted, yielded, undef]) ?_ hS ?_
        rotate_left
        · (intro w' hSw; (try dsimp only at hSw); go_simp; try with_reducible rfl)
        try simp only [Act.put, List.getElem_toArray, List.getElem_cons_succ, List.getElem_cons_zero, List.setIfInBounds_toArray, List.set_cons_zero, List.set_cons_succ]
        refine AnyG.takeC (i := 34) (v := ?_) rfl (by as_aux_lemma => kernel_rfl) (fun _ _ _ h => h) rfl ?_ hS ?_
        rotate_left
        · (intro w' hSw; (try dsimp only at hSw); go_simp; try with_reducible rfl)
        try simp only [Act.put, List.getElem_toArray, List.getElem_cons_succ, List.getElem_cons_zero, List.setIfInBounds_toArray, List.set_cons_zero, List.set_cons_succ]
        refine AnyG.takeC (i := 35) (v := ?_) rfl (by as_aux_lemma => kernel_rfl) (fun _ _ _ h => h) rfl ?_ hS ?_
        rotate_left
        · (intro w' hSw; (try dsimp only at hSw); go_simp; try with_reducible rfl)
        try simp only [Act.put, List.getElem_toArray, List.getElem_cons_succ, List.getElem_cons_zero, List.setIfInBounds_toArray, List.set_cons_zero, List.set_cons_succ]
        refine AnyG.takeGC (i := 36) (v := ?_) rfl (by as_aux_lemma => kernel_rfl) (fun _ _ _ h => h) (by first | (simp [Region.wanted, yielded]; done) | simp [Region.wanted, yielded, undef]) ?_ hS ?_
        rotate_left
        · (intro w' hSw; (try dsimp only at hSw); obtain ⟨x0, x1, xf, xz⟩ := (k9.call hSw).two'; go_simp; try with_reducible rfl)
        try simp only [Act.put, List.getElem_toArray, List.getElem_cons_succ, List.getElem_cons_zero, List.setIfInBounds_toArray, List.set_cons_zero, List.set_cons_succ]
        refine AnyG.takeGC (i := 37) (v := ?_) rfl (by as_aux_lemma => kernel_rfl) (fun _ _ _ h => h) (by first | (simp [Region.wanted, yielded]; done) | simp [Region.wanted, yielded, undef]) ?_ hS ?_
        rotate_left
        · (intro w' hSw; (try dsimp only at hSw); obtain ⟨x0, x1, xf, xz⟩ := (k11.call hSw).two'; go_simp; try with_reducible rfl)
        try simp only [Act.put, List.getElem_toArray, List.getElem_cons_succ, List.getElem_cons_zero, List.setIfInBounds_toArray, List.set_cons_zero, List.set_cons_succ]
        refine AnyG.takeGC (i := 38) (v := ?_) rfl (by as_aux_lemma => kernel_rfl) (fun _ _ _ h => h) (by first | (simp [Region.wanted, yielded]; done) | simp [Region.wanted, yielded, undef]) ?_ hS ?_
        rotate_left
        · (intro w' hSw; (try dsimp only at hSw); go_simp; try with_reducible rfl)
        try simp only [Act.put, List.getElem_toArray, List.getElem_cons_succ, List.getElem_cons_zero, List.setIfInBounds_toArray, List.set_cons_zero, List.set_cons_succ]
        refine AnyG.takeC (i := 39) (v := ?_) rfl (by as_aux_lemma => kernel_rfl) (fun _ _ _ h => h) rfl ?_ hS ?_
        rotate_left
        · (intro w' hSw; (try dsimp only at hSw); go_simp; try with_reducible rfl)
        try simp only [Act.put, List.getElem_toArray, List.getElem_cons_succ, List.getElem_cons_zero, List.setIfInBounds_toArray, List.set_cons_zero, List.set_cons_succ]
        refine AnyG.takeC (i := 40) (v := ?_) rfl (by as_aux_lemma => kernel_rfl) (fun _ _ _ h => h) rfl ?_ hS ?_
        rotate_left
        · (intro w' hSw; (try dsimp only at hSw); go_simp; try with_reducible rfl)
        try simp only [Act.put, List.getElem_toArray, List.getElem_cons_succ, List.getElem_cons_zero, List.setIfInBounds_toArray, List.set_cons_zero, List.set_cons_succ]
        refine AnyG.takeGC (i := 41) (v := ?_) rfl (by as_aux_lemma => kernel_rfl) (fun _ _ _ h => h) (by first | (simp [Region.wanted, yielded]; done) | simp [Region.wanted, yielded, undef]) ?_ hS ?_
        rotate_left
        · (intro w' hSw; (try dsimp only at hSw); go_simp; try with_reducible rfl)
        try simp only [Act.put, List.getElem_toArray, List.getElem_cons_succ, List.getElem_cons_zero, List.setIfInBounds_toArray, List.set_cons_zero, List.set_cons_succ]
        refine AnyG.takeGC (i := 42) (v := ?_) rfl (by as_aux_lemma => kernel_rfl) (fun _ _ _ h => h) (by first | (simp [Region.wanted, yielded]; done) | simp [Region.wanted, yielded, undef]) ?_ hS ?_
        rotate_left
        · (intro w' hSw; (try dsimp only at hSw); go_simp; try with_reducible rfl)
        try simp only [Act.put, List.getElem_toArray, List.getElem_cons_succ, List.getElem_cons_zero, List.setIfInBounds_toArray, List.set_cons_zero, List.set_cons_succ]
        refine AnyG.takeGC (i := 43) (v := ?_) rfl (by as_aux_lemma => kernel_rfl) (fun _ _ _ h => h) (by first | (simp [Region.wanted, yielded]; done) | simp [Region.wanted, yielded, undef]) ?_ hS ?_
        rotate_left
        · (intro w' hSw; (try dsimp only at hSw); go_simp; try with_reducible rfl)
        try simp only [Act.put, List.getElem_toArray, List.getElem_cons_succ, List.getElem_cons_zero, List.setIfInBounds_toArray, List.set_cons_zero, List.set_cons_succ]
        refine AnyG.takeC (i := 44) (v := ?_) rfl (by as_aux_lemma => kernel_rfl) (fun _ _ _ h => h) rfl ?_ hS ?_
        rotate_left
        · (intro w' hSw; (try dsimp only at hSw); go_simp; try with_reducible rfl)
        try simp only [Act.put, List.getElem_toArray, List.getElem_cons_succ, List.getElem_cons_zero, List.setIfInBounds_toArray, List.set_cons_zero, List.set_cons_succ]
        refine AnyG.takeC (i := 45) (v := ?_) rfl (by as_aux_lemma => kernel_rfl) (fun _ _ _ h => h) rfl ?_ hS ?_
        rotate_left
        · (intro w' hSw; (try dsimp only at hSw); go_simp; try with_reducible rfl)
        try simp only [Act.put, List.getElem_toArray, List.getElem_cons_succ, List.getElem_cons_zero, List.setIfInBounds_toArray, List.set_cons_zero, List.set_cons_succ]
        refine AnyG.takeGC (i := 46) (v := ?_) rfl (by as_aux_lemma => kernel_rfl) (fun _ _ _ h => h) (by first | (simp [Region.wanted, yielded]; done) | simp [Region.wanted, yielded, undef]) ?_ hS ?_
        rotate_left
        · (intro w' hSw; (try dsimp only at hSw); obtain ⟨x0, x1, xf, xz⟩ := (k15.call hSw).two'; go_simp; try with_reducible rfl)
        try simp only [Act.put, List.getElem_toArray, List.getElem_cons_succ, List.getElem_cons_zero, List.setIfInBounds_toArray, List.set_cons_zero, List.set_cons_succ]
        refine AnyG.takeGC (i := 47) (v := ?_) rfl (by as_aux_lemma => kernel_rfl) (fun _ _ _ h => h) (by first | (simp [Region.wanted, yielded]; done) | simp [Region.wanted, yielded, undef]) ?_ hS ?_
        rotate_left
        · (intro w' hSw; (try dsimp only at hSw); go_simp; try with_reducible rfl)
        try simp only [Act.put, List.getElem_toArray, List.getElem_cons_succ, List.getElem_cons_zero, List.setIfInBounds_toArray, List.set_cons_zero, List.set_cons_succ]
        refine AnyG.takeGC (i := 48) (v := ?_) rfl (by as_aux_lemma => kernel_rfl) (fun _ _ _ h => h) (by first | (simp [Region.wanted, yielded]; done) | simp [Region.wanted, yielded, undef]) ?_ hS ?_
        rotate_left
        · (intro w' hSw; (try dsimp only at hSw); obtain ⟨x0, x1, xf, xz⟩ := (k18.call hSw).two'; go_simp; try with_reducible rfl)
        try simp only [Act.put, List.getElem_toArray, List.getElem_cons_succ, List.getElem_cons_zero, List.setIfInBounds_toArray, List.set_cons_zero, List.set_cons_succ]
        refine AnyG.takeGC (i := 49) (v := ?_) rfl (by as_aux_lemma => kernel_rfl) (fun _ _ _ h => h) (by first | (simp [Region.wanted, yielded]; done) | simp [Region.wanted, yielded, undef]) ?_ hS ?_
        rotate_left
        · (intro w' hSw; (try dsimp only at hSw); go_simp; try with_reducible rfl)
        try simp only [Act.put, List.getElem_toArray, List.getElem_cons_succ, List.getElem_cons_zero, List.setIfInBounds_toArray, List.set_cons_zero, List.set_cons_succ]
        refine AnyG.takeGC (i := 50) (v := ?_) rfl (by as_aux_lemma => kernel_rfl) (fun _ _ _ h => h) (by first | (simp [Region.wanted, yielded]; done) | simp [Region.wanted, yielded, undef]) ?_ hS ?_
        rotate_left
        · (intro w' hSw; (try dsimp only at hSw); go_simp; try with_reducible rfl)
        try simp only [Act.put, List.getElem_toArray, List.getElem_cons_succ, List.getElem_cons_zero, List.setIfInBounds_toArray, List.set_cons_zero, List.set_cons_succ]
        refine AnyG.takeGC (i := 51) (v := ?_) rfl (by as_aux_lemma => kernel_rfl) (fun _ _ _ h => h) (by first | (simp [Region.wanted, yielded]; done) | simp [Region.wanted, yielded, undef]) ?_ hS ?_
        rotate_left
        · (intro w' hSw; (try dsimp only at hSw); obtain ⟨x0, x1, xf, xz⟩ := (k18.call hSw).two'; go_simp; try with_reducible rfl)
        try simp only [Act.put, List.getElem_toArray, List.getElem_cons_succ, List.getElem_cons_zero, List.setIfInBounds_toArray, List.set_cons_zero, List.set_cons_succ]
        refine AnyG.takeGC (i := 52) (v := ?_) rfl (by as_aux_lemma => kernel_rfl) (fun _ _ _ h => h) (by first | (simp [Region.wanted, yielded]; done) | simp [Region.wanted, yielded, undef]) ?_ hS ?_
        rotate_left
        · (intro w' hSw; (try dsimp only at hSw); go_simp; try with_reducible rfl)
        try simp only [Act.put, List.getElem_toArray, List.getElem_cons_succ, List.getElem_cons_zero, List.setIfInBounds_toArray, List.set_cons_zero, List.set_cons_succ]
        refine AnyG.oneC (i := 53) (by as_aux_lemma => kernel_rfl) rfl (by first | (simp [Region.wanted, yielded]; done) | simp [Region.wanted, yielded, undef]) ?_
        go_simp
        refine (rng_any _ _ _).mono ?_
        rintro er y53 ⟨rfl, hb53⟩
        refine Onward.on (hS.trans (hb53.mono hS.size)) (fun hS2 => ?_)
        clear hS
        have hS := hS2
        clear hS2
        try simp only [Act.put, List.getElem_toArray, List.getElem_cons_succ, List.getElem_cons_zero, List.setIfInBounds_toArray, List.set_cons_zero, List.set_cons_succ]
        refine AnyG.takeGC (i := 54) (v := ?_) rfl (by as_aux_lemma => kernel_rfl) (fun _ _ _ h => h) (by first | (simp [Region.wanted, yielded]; done) | simp [Region.wanted, yielded, undef]) ?_ hS ?_
        rotate_left
        · (intro w' hSw; (try dsimp only at hSw); go_simp; try with_reducible rfl)
        try simp only [Act.put, List.getElem_toArray, List.getElem_cons_succ, List.getElem_cons_zero, List.setIfInBounds_toArray, List.set_cons_zero, List.set_cons_succ]
        refine AnyG.takeC (i := 55) (v := ?_) rfl (by as_aux_lemma => kernel_rfl) (fun _ _ _ h => h) rfl ?_ hS ?_
        rotate_left
        · (intro w' hSw; (try dsimp only at hSw); go_simp; try with_reducible rfl)
        try simp only [Act.put, List.getElem_toArray, List.getElem_cons_succ, List.getElem_cons_zero, List.setIfInBounds_toArray, List.set_cons_zero, List.set_cons_succ]
        refine AnyG.takeC (i := 56) (v := ?_) rfl (by as_aux_lemma => kernel_rfl) (fun _ _ _ h => h) rfl ?_ hS ?_
        rotate_left
        · (intro w' hSw; (try dsimp only at hSw); go_simp; try with_reducible rfl)
        try simp only [Act.put, List.getElem_toArray, List.getElem_cons_succ, List.getElem_cons_zero, List.setIfInBounds_toArray, List.set_cons_zero, List.set_cons_succ]
        refine AnyG.takeGC (i := 57) (v := ?_) rfl (by as_aux_lemma => kernel_rfl) (fun _ _ _ h => h) (by first | (simp [Region.wanted, yielded]; done) | simp [Region.wanted, yielded, undef]) ?_ hS ?_
        rotate_left
        · (intro w' hSw; (try dsimp only at hSw); go_simp; try with_reducible rfl)
        try simp only [Act.put, List.getElem_toArray, List.getElem_cons_succ, List.getElem_cons_zero, List.setIfInBounds_toArray, List.set_cons_zero, List.set_cons_succ]
        refine AnyG.takeGC (i := 58) (v := ?_) rfl (by as_aux_lemma => kernel_rfl) (fun _ _ _ h => h) (by first | (simp [Region.wanted, yielded]; done) | simp [Region.wanted, yielded, undef]) ?_ hS ?_
        rotate_left
        · (intro w' hSw; (try dsimp only at hSw); go_simp; try with_reducible rfl)
        try simp only [Act.put, List.getElem_toArray, List.getElem_cons_succ, List.getElem_cons_zero, List.setIfInBounds_toArray, List.set_cons_zero, List.set_cons_succ]
        refine AnyG.takeGC (i := 59) (v := ?_) rfl (by as_aux_lemma => kernel_rfl) (fun _ _ _ h => h) (by first | (simp [Region.wanted, yielded]; done) | simp [Region.wanted, yielded, undef]) ?_ hS ?_
        rotate_left
        · (intro w' hSw; (try dsimp only at hSw); go_simp; try with_reducible rfl)
        try simp only [Act.put, List.getElem_toArray, List.getElem_cons_succ, List.getElem_cons_zero, List.setIfInBounds_toArray, List.set_cons_zero, List.set_cons_succ]
        refine AnyG.takeC (i := 60) (v := ?_) rfl (by as_aux_lemma => kernel_rfl) (fun _ _ _ h => h) rfl ?_ hS ?_
        rotate_left
        · (intro w' hSw; (try dsimp only at hSw); go_simp; try with_reducible rfl)
        try simp only [Act.put, List.getElem_toArray, List.getElem_cons_succ, List.getElem_cons_zero, List.setIfInBounds_toArray, List.set_cons_zero, List.set_cons_succ]
        refine AnyG.takeC (i := 61) (v := ?_) rfl (by as_aux_lemma => kernel_rfl) (fun _ _ _ h => h) rfl ?_ hS ?_
        rotate_left
        · (intro w' hSw; (try dsimp only at hSw); go_simp; try with_reducible rfl)
        try simp only [Act.put, List.getElem_toArray, List.getElem_cons_succ, List.getElem_cons_zero, List.setIfInBounds_toArray, List.set_cons_zero, List.set_cons_succ]
        refine AnyG.takeGC (i := 62) (v := ?_) rfl (by as_aux_lemma => kernel_rfl) (fun _ _ _ h => h) (by first | (simp [Region.wanted, yielded]; done) | simp [Region.wanted, yielded, undef]) ?_ hS ?_
        rotate_left
        · (intro w' hSw; (try dsimp only at hSw); go_simp; try with_reducible rfl)
        try simp only [Act.put, List.getElem_toArray, List.getElem_cons_succ, List.getElem_cons_zero, List.setIfInBounds_toArray, List.set_cons_zero, List.set_cons_succ]
        refine AnyG.takeGC (i := 63) (v := ?_) rfl (by as_aux_lemma => kernel_rfl) (fun _ _ _ h => h) (by first | (simp [Region.wanted, yielded]; done) | simp [Region.wanted, yielded, undef]) ?_ hS ?_
        rotate_left
        · (intro w' hSw; (try dsimp only at hSw); go_simp; try with_reducible rfl)
        try simp only [Act.put, List.getElem_toArray, List.getElem_cons_succ, List.getElem_cons_zero, List.setIfInBounds_toArray, List.set_cons_zero, List.set_cons_succ]
        refine AnyG.takeGC (i := 64) (v := ?_) rfl (by as_aux_lemma => kernel_rfl) (fun _ _ _ h => h) (by first | (simp [Region.wanted, yielded]; done) | simp [Region.wanted, yielded, undef]) ?_ hS ?_
        rotate_left
        · (intro w' hSw; (try dsimp only at hSw); go_simp; try with_reducible rfl)
        try simp only [Act.put, List.getElem_toArray, List.getElem_cons_succ, List.getElem_cons_zero, List.setIfInBounds_toArray, List.set_cons_zero, List.set_cons_succ]
        refine AnyG.takeC (i := 65) (v := ?_) rfl (by as_aux_lemma => kernel_rfl) (fun _ _ _ h => h) rfl ?_ hS ?_
        rotate_left
        · (intro w' hSw; (try dsimp only at hSw); go_simp; try with_reducible rfl)
        try simp only [Act.put, List.getElem_toArray, List.getElem_cons_succ, List.getElem_cons_zero, List.setIfInBounds_toArray, List.set_cons_zero, List.set_cons_succ]
        refine AnyG.takeC (i := 66) (v := ?_) rfl (by as_aux_lemma => kernel_rfl) (fun _ _ _ h => h) rfl ?_ hS ?_
        rotate_left
        · (intro w' hSw; (try dsimp only at hSw); go_simp; try with_reducible rfl)
        try simp only [Act.put, List.getElem_toArray, List.getElem_cons_succ, List.getElem_cons_zero, List.setIfInBounds_toArray, List.set_cons_zero, List.set_cons_succ]
        refine AnyG.takeGC (i := 67) (v := ?_) rfl (by as_aux_lemma => kernel_rfl) (fun _ _ _ h => h) (by first | (simp [Region.wanted, yielded]; done) | simp [Region.wanted, yielded, undef]) ?_ hS ?_
        rotate_left
        · (intro w' hSw; (try dsimp only at hSw); go_simp; try with_reducible rfl)
        try simp only [Act.put, List.getElem_toArray, List.getElem_cons_succ, List.getElem_cons_zero, List.setIfInBounds_toArray, List.set_cons_zero, List.set_cons_succ]
        refine AnyG.takeGC (i := 68) (v := ?_) rfl (by as_aux_lemma => kernel_rfl) (fun _ _ _ h => h) (by first | (simp [Region.wanted, yielded]; done) | simp [Region.wanted, yielded, undef]) ?_ hS ?_
        rotate_left
        · (intro w' hSw; (try dsimp only at hSw); go_simp; try with_reducible rfl)
        try simp only [Act.put, List.getElem_toArray, List.getElem_cons_succ, List.getElem_cons_zero, List.setIfInBounds_toArray, List.set_cons_zero, List.set_cons_succ]
        refine AnyG.oneC (i := 69) (by as_aux_lemma => kernel_rfl) rfl (by first | (simp [Region.wanted, yielded]; done) | simp [Region.wanted, yielded, undef]) ?_
        go_simp
        refine (equalInts_any Xir1 tn cir1 Xir2 tn cir2 TT TT _ (by omega) (by omega) HTN.out HTN.out (ir1.call hS) (ir2.call hS)).mono ?_
        rintro er y69 ⟨rfl, hb69⟩
        rw [show decide (TT = TT) = true by simp]
        refine Onward.on (hS.trans (hb69.mono hS.size)) (fun hS2 => ?_)
        clear hS
        have hS := hS2
        clear hS2
        try simp only [Act.put, List.getElem_toArray, List.getElem_cons_succ, List.getElem_cons_zero, List.setIfInBounds_toArray, List.set_cons_zero, List.set_cons_succ]
        refine AnyG.takeC (i := 70) (v := ?_) rfl (by as_aux_lemma => kernel_rfl) (fun _ _ _ h => h) rfl ?_ hS ?_
        rotate_left
        · (intro w' hSw; (try dsimp only at hSw); go_simp; try with_reducible rfl)
        try simp only [Act.put, List.getElem_toArray, List.getElem_cons_succ, List.getElem_cons_zero, List.setIfInBounds_toArray, List.set_cons_zero, List.set_cons_succ]
        refine AnyG.takeC (i := 71) (v := ?_) rfl (by as_aux_lemma => kernel_rfl) (fun _ _ _ h => h) rfl ?_ hS ?_
        rotate_left
        · (intro w' hSw; (try dsimp only at hSw); go_simp; try with_reducible rfl)
        try simp only [Act.put, List.getElem_toArray, List.getElem_cons_succ, List.getElem_cons_zero, List.setIfInBounds_toArray, List.set_cons_zero, List.set_cons_succ]
        refine AnyG.takeGC (i := 72) (v := ?_) rfl (by as_aux_lemma => kernel_rfl) (fun _ _ _ h => h) (by first | (simp [Region.wanted, yielded]; done) | simp [Region.wanted, yielded, undef]) ?_ hS ?_
        rotate_left
        · (intro w' hSw; (try dsimp only at hSw); go_simp; try with_reducible rfl)
        try simp only [Act.put, List.getElem_toArray, List.getElem_cons_succ, List.getElem_cons_zero, List.setIfInBounds_toArray, List.set_cons_zero, List.set_cons_succ]
        refine AnyG.takeGC (i := 73) (v := ?_) rfl (by as_aux_lemma => kernel_rfl) (fun _ _ _ h => h) (by first | (simp [Region.wanted, yielded]; done) | simp [Region.wanted, yielded, undef]) ?_ hS ?_
        rotate_left
        · (intro w' hSw; (try dsimp only at hSw); go_simp; try with_reducible rfl)
        try simp only [Act.put, List.getElem_toArray, List.getElem_cons_succ, List.getElem_cons_zero, List.setIfInBounds_toArray, List.set_cons_zero, List.set_cons_succ]
        refine AnyG.oneC (i := 74) (by as_aux_lemma => kernel_rfl) rfl (by first | (simp [Region.wanted, yielded]; done) | simp [Region.wanted, yielded, undef]) ?_
        go_simp
        refine (equalRanges_any Xgr1 n2 cgr1 Xgr2 n2 cgr2 OV OV _ (by omega) (by omega) HN2.out HN2.out (gr1.call hS) (gr2.call hS)).mono ?_
        rintro er y74 ⟨rfl, hb74⟩
        rw [show decide (OV = OV) = true by simp]
        refine Onward.on (hS.trans (hb74.mono hS.size)) (fun hS2 => ?_)
        clear hS
        have hS := hS2
        clear hS2
        try simp only [Act.put, List.getElem_toArray, List.getElem_cons_succ, List.getElem_cons_zero, List.setIfInBounds_toArray, List.set_cons_zero, List.set_cons_succ]
        refine AnyG.takeC (i := 75) (v := ?_) rfl (by as_aux_lemma => kernel_rfl) (fun _ _ _ h => h) rfl ?_ hS ?_
        rotate_left
        · (intro w' hSw; (try dsimp only at hSw); go_simp; try with_reducible rfl)
        try simp only [Act.put, List.getElem_toArray, List.getElem_cons_succ, List.getElem_cons_zero, List.setIfInBounds_toArray, List.set_cons_zero, List.set_cons_succ]
        refine AnyG.takeC (i := 76) (v := ?_) rfl (by as_aux_lemma => kernel_rfl) (fun _ _ _ h => h) rfl ?_ hS ?_
        rotate_left
        · (intro w' hSw; (try dsimp only at hSw); go_simp; try with_reducible rfl)
        try simp only [Act.put, List.getElem_toArray, List.getElem_cons_succ, List.getElem_cons_zero, List.setIfInBounds_toArray, List.set_cons_zero, List.set_cons_succ]
        refine AnyG.oneC (i := 77) (by as_aux_lemma => kernel_rfl) rfl (by first | (simp [Region.wanted, yielded]; done) | simp [Region.wanted, yielded, undef]) ?_
        go_simp
        refine (awake_any _).mono ?_
        rintro er y77 ⟨rfl, hb77⟩
        refine Onward.on (hS.trans (hb77.mono hS.size)) (fun hS2 => ?_)
        clear hS
        have hS := hS2
        clear hS2
        try simp only [Act.put, List.getElem_toArray, List.getElem_cons_succ, List.getElem_cons_zero, List.setIfInBounds_toArray, List.set_cons_zero, List.set_cons_succ]
        refine AnyG.takeC (i := 78) (v := ?_) rfl (by as_aux_lemma => kernel_rfl) (fun _ _ _ h => h) rfl ?_ hS ?_
        rotate_left
        · (intro w' hSw; (try dsimp only at hSw); go_simp; try with_reducible rfl)
        try simp only [Act.put, List.getElem_toArray, List.getElem_cons_succ, List.getElem_cons_zero, List.setIfInBounds_toArray, List.set_cons_zero, List.set_cons_succ]
        refine AnyG.one (i := 79) (by as_aux_lemma => kernel_rfl) rfl rfl ?_
        go_simp
        refine Onward.on hS (fun hS2 => ?_)
        clear hS
        have hS := hS2
        clear hS2
        try simp only [Act.put, List.getElem_toArray, List.getElem_cons_succ, List.getElem_cons_zero, List.setIfInBounds_toArray, List.set_cons_zero, List.set_cons_succ]
        refine AnyG.done (by as_aux_lemma => kernel_rfl) ?_ _
        have hE : Below w16.heap.size w16 y77 := hS
        clear hS
        go_simp
        go_wp2_with fail
        go_ret
        exact ⟨rfl, hBw.trans (hE.mono hBw.size)⟩
end Go.Proofs.Ytfcpjkofbejleaa
