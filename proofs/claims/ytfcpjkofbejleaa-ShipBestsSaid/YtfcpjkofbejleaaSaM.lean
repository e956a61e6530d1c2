/- CheckStowage. -/
import Derived.Test.YtfcpjkofbejleaaAh
import Derived.Test.YtfcpjkofbejleaaVl
set_option linter.unusedSimpArgs false
set_option linter.unusedVariables false
namespace Go.Proofs.Ytfcpjkofbejleaa
open Go Go.RowKit
theorem inH_held {v : Vg} {s : List Int} (h : InH v.hs.length s) : Held v s := fun x hx => by
  obtain ⟨_, h2, h3⟩ := abd_mem hx
  have := h _ h2
  omega
set_option maxHeartbeats 1600000 in
theorem checkStowage_any (v : Vg) (p : Vp) (A : Option Addr) (sn sc : Nat) (s : List Int) (w : World) (hF : p.Fit) (hLF : LvFit v) (hV : VoyAt w w.heap.size v p) (hS : Sl w w.heap.size 1 A (inr s)) (hl : s.length = sn) (hsn : sn ≤ 1000000) :
    Calls Try.prog 29 #[.agg (vcs v p), .slice A sn sc] w fun e w' => e = .returned (.int .i64 (ckSt v s)) ∧ Below w.heap.size w w' := by
  have k0 := Bx.new w 26 (vcs v p)
  have B0 := (Below.refl w.heap.size w).alloc (Nat.le_refl _) (.cells (vcs v p) 26)
  have HL := Lib.hid hl
  obtain ⟨E, hE⟩ : ∃ E, ckV v = E := ⟨_, rfl⟩
  have HE := Lib.hid hE
  rw [vcs_def] at k0 B0 ⊢
  by_cases hz : E = 0
  case neg =>
    have hz1 : (E != 0) = true := by simpa using hz
    have HR : Hid (ckSt v s = E) := Lib.hid (by unfold ckSt; rw [hE, if_pos hz])
    rw [HR.out]
    clear hE hl
    go_enter Try.func29, Try.ntmps29
    go_wp2_with (first
        | (go_at_call 27; refine (check_any v p _ hF hLF (hV.call B0)).mono ?_; rintro e_1 w_1 ⟨rfl, hb_1⟩; rw [HE.out]; have k_1 := k0.call hb_1; have B_1 := B0.trans (hb_1.mono B0.size); obtain ⟨c0_1, c1_1, c2_1, c3_1, c4_1, c5_1, c6_1, cf_1, cz_1⟩ := k_1.seven)
        | fail)
    go_ret
    exact ⟨rfl, B_1⟩
  subst hz
  have ho := ckV_ok hE
  have HR : Hid (ckSt v s = if s.length ≠ v.ls.length then 2 else if inHb v.hs.length s = false then 3 else if roomOk v.hs (abd v.ls s) = false then 13 else 0) := Lib.hid (by unfold ckSt; rw [hE, if_neg (by simp)])
  by_cases hln : sn = p.ln
  case neg =>
    have hne : ((sn : Int) != (p.ln : Int)) = true := by simp; omega
    have HR2 : Hid (ckSt v s = 2) := Lib.hid (by rw [HR.out, if_pos (by rw [hl, hV.ll]; exact hln)])
    rw [HR2.out]
    clear hE hl hln
    go_enter Try.func29, Try.ntmps29
    go_wp2_with (first
        | (go_at_call 27; refine (check_any v p _ hF hLF (hV.call B0)).mono ?_; rintro e_1 w_1 ⟨rfl, hb_1⟩; rw [HE.out]; have k_1 := k0.call hb_1; have B_1 := B0.trans (hb_1.mono B0.size); obtain ⟨c0_1, c1_1, c2_1, c3_1, c4_1, c5_1, c6_1, cf_1, cz_1⟩ := k_1.seven)
        | fail)
    go_ret
    exact ⟨rfl, B_1⟩
  have hne : ((sn : Int) != (p.ln : Int)) = false := by simp; omega
  have h6 := ho.l6
  have h3 := ho.h3
  have h1 := ho.h1
  have hln6 : p.ln ≤ 6 := by rw [← hV.ll]; exact h6
  have hhn : p.hn ≤ 3 := by rw [← hV.hl]; exact h3
  have hhn1 : 1 ≤ p.hn := by rw [← hV.hl]; exact h1
  have HLN := Lib.hid hln
  have hwh : IntKind.i64.wrap ((p.hn : Int) - 1) = (p.hn : Int) - 1 := IntWalk.i64_in _ (by omega)
  have HR2 : Hid (ckSt v s = if inHb v.hs.length s = false then 3 else if roomOk v.hs (abd v.ls s) = false then 13 else 0) := Lib.hid (by rw [HR.out, if_neg (by rw [hl, hV.ll]; simp; exact hln)])
  clear hE hl hln HR
  go_enter Try.func29, Try.ntmps29
  go_wp2_with (first
      | (go_at_call 27; refine (check_any v p _ hF hLF (hV.call B0)).mono ?_; rintro e_1 w_1 ⟨rfl, hb_1⟩; rw [HE.out]; have k_1 := k0.call hb_1; have B_1 := B0.trans (hb_1.mono B0.size); obtain ⟨c0_1, c1_1, c2_1, c3_1, c4_1, c5_1, c6_1, cf_1, cz_1⟩ := k_1.seven)
      | fail)
  go_loopw [21] (fun i wr => ∃ k : Nat, k ≤ sn ∧ i = .int .i64 k ∧ Hid (∀ j : Nat, j < k → ∀ x, s[j]? = some x → -1 ≤ x ∧ x ≤ (p.hn : Int) - 1) ∧ Bx wr w.heap.size 26 #[.int .i64 v.li, .int .i64 v.un, .int .i64 v.tr, .slice p.HA p.hn p.hc, .int .i64 v.le, .slice p.SA p.sn p.sc, .slice p.LA p.ln p.lc] ∧ Below w.heap.size w wr) (fun i _ => sn - (intOf i).toNat)
  case atStart => exact ⟨0, by omega, rfl, Lib.hid (fun j hj => by omega), k_1, B_1⟩
  case round =>
    clear hb_1 k_1 B_1 c0_1 c1_1 c2_1 c3_1 c4_1 c5_1 c6_1 cf_1 cz_1
    obtain ⟨k, hk, rfl, hall, k0', B0'⟩ := hrel
    obtain ⟨c0_1, c1_1, c2_1, c3_1, c4_1, c5_1, c6_1, cf_1, cz_1⟩ := k0'.seven
    by_cases hks : k < sn
    · have hke : k < s.length := by rw [HL.out]; exact hks
      obtain ⟨ad, rfl, _, q0⟩ := inr_at ((hS.below B0').more B0'.size) hke
      have hget := List.getElem?_eq_getElem hke
      obtain ⟨x, hx⟩ : ∃ x, s[k] = x := ⟨_, rfl⟩
      rw [hx] at q0 hget
      have HG := Lib.hid hget
      clear hget hx
      have hiw : IntKind.i64.wrap ((k : Int) + 1) = (k : Int) + 1 := IntWalk.i64_in _ (by omega)
      by_cases hin : -1 ≤ x ∧ x ≤ (p.hn : Int) - 1
      · have hall' : Hid (∀ j : Nat, j < k + 1 → ∀ x, s[j]? = some x → -1 ≤ x ∧ x ≤ (p.hn : Int) - 1) := Lib.hid (fun j hj y hy => by
          by_cases e : j = k
          · subst e; rw [HG.out] at hy; cases hy; exact hin
          · exact hall.out j (by omega) y hy)
        clear hS
        go_wp2_with (first | (go_at_call 62; refine (isWithin_yes _ _ _ _ hin).mono ?_; rintro e w1 ⟨rfl, hb⟩) | fail)
        go_roundw
        case rel => exact ⟨k + 1, by omega, by go_num, hall', k0'.call hb, B0'.trans (hb.mono B0'.size)⟩
        case measure => simp [intOf]; omega
      · have HR3 : Hid (ckSt v s = 3) := Lib.hid (by
          rw [HR2.out, if_pos]
          cases h : inHb v.hs.length s with
          | false => rfl
          | true =>
            have := inHb_iff.1 h x (List.mem_of_getElem? HG.out)
            rw [hV.hl] at this
            omega)
        clear hS
        go_wp2_with (first | (go_at_call 62; refine (isWithin_no _ _ _ _ hin).mono ?_; rintro e w1 ⟨rfl, hb⟩) | fail)
        go_ret
        exact ⟨ret_int HR3.out.symm, B0'.trans (hb.mono B0'.size)⟩
    · have hin : InH v.hs.length s := fun x hx => by
        obtain ⟨j, hj⟩ := List.getElem?_of_mem hx
        have hjl := (List.getElem?_eq_some_iff.1 hj).1
        rw [HL.out] at hjl
        have := hall.out j (by omega) x hj
        rw [hV.hl]; omega
      have hb' := inHb_iff.2 hin
      have hroom := isRoomFor_any v p A sn sc s wr ho ((hV.below B0').more B0'.size) ((hS.below B0').more B0'.size) HL.out (by rw [HLN.out]; exact Nat.le_refl _) (inH_held hin)
      obtain ⟨rm, hrm⟩ : ∃ b, roomOk v.hs (abd v.ls s) = b := ⟨_, rfl⟩
      rw [hrm] at hroom
      have HR4 : Hid (ckSt v s = if rm = false then 13 else 0) := Lib.hid (by rw [HR2.out, if_neg (by rw [hb']; simp), hrm])
      clear hin hb' hrm hS hall
      cases rm
      · go_wp2_with (first | (go_at_call 69; refine hroom.mono ?_; rintro e w1 ⟨rfl, hb⟩) | fail)
        go_ret
        exact ⟨ret_int (by rw [HR4.out]; rfl), B0'.trans (hb.mono B0'.size)⟩
      · go_wp2_with (first | (go_at_call 69; refine hroom.mono ?_; rintro e w1 ⟨rfl, hb⟩) | fail)
        go_ret
        exact ⟨ret_int (by rw [HR4.out]; rfl), B0'.trans (hb.mono B0'.size)⟩
end Go.Proofs.Ytfcpjkofbejleaa

/-! Drafts, Level. -/
namespace Go.Proofs.Ytfcpjkofbejleaa
open Go Go.RowKit
theorem bx_same2 {w : World} {g t : Nat} {a b : Value} (h : Bx w g t #[a, b]) : Bx ((w.setCell ⟨g, 0, none⟩ a).setCell ⟨g, 1, none⟩ b) g t #[a, b] := by
  have := (h.set_ 0 a).set_ 1 b
  simpa using this
set_option maxRecDepth 100000 in
set_option maxHeartbeats 4000000 in
theorem drafts_any (v : Vg) (p : Vp) (A : Option Addr) (sn sc : Nat) (s : List Int) (w : World) (hF : p.Fit) (hLF : LvFit v) (hV : VoyAt w w.heap.size v p) (hS : Sl w w.heap.size 1 A (inr s)) (hl : s.length = sn) (hsn : sn ≤ 1000000) :
    Calls Try.prog 23 #[.agg (vcs v p), .slice A sn sc] w fun e w' => e = .returned (if ckSt v s = 0 then .tuple #[.agg #[.int .i64 (deepB v (abd v.ls s) true), .int .i64 (deepB v (abd v.ls s) false)], .agg #[.int .i64 (deepS v (abd v.ls s) true), .int .i64 (deepS v (abd v.ls s) false)], .int .i64 0] else .tuple #[.agg #[.int .i64 0, .int .i64 0], .agg #[.int .i64 0, .int .i64 0], .int .i64 (ckSt v s)]) ∧ Below w.heap.size w w' := by
  have k0 := ((Bx.new w 26 (vcs v p)).alloc (.cells #[.int .i64 0, .int .i64 0] 41)).alloc (.cells #[.int .i64 0, .int .i64 0] 41)
  have kA := (Bx.at (w.alloc (.cells (vcs v p) 26)) 41 #[.int .i64 0, .int .i64 0] (n := w.heap.size + 1) (by simp)).alloc (.cells #[.int .i64 0, .int .i64 0] 41)
  have kB := Bx.at ((w.alloc (.cells (vcs v p) 26)).alloc (.cells #[.int .i64 0, .int .i64 0] 41)) 41 #[.int .i64 0, .int .i64 0] (n := w.heap.size + 1 + 1) (by simp)
  have B0 := (((Below.refl w.heap.size w).alloc (Nat.le_refl _) (.cells (vcs v p) 26)).alloc (by simp) (.cells #[.int .i64 0, .int .i64 0] 41)).alloc (by simp; omega) (.cells #[.int .i64 0, .int .i64 0] 41)
  have HL := Lib.hid hl
  obtain ⟨E, hE⟩ : ∃ E, ckSt v s = E := ⟨_, rfl⟩
  have HE := Lib.hid hE
  rw [vcs_def] at k0 kA kB B0 ⊢
  obtain ⟨V, hVV⟩ : ∃ V, ((w.alloc (.cells #[.int .i64 v.li, .int .i64 v.un, .int .i64 v.tr, .slice p.HA p.hn p.hc, .int .i64 v.le, .slice p.SA p.sn p.sc, .slice p.LA p.ln p.lc] 26)).alloc (.cells #[.int .i64 0, .int .i64 0] 41)).alloc (.cells #[.int .i64 0, .int .i64 0] 41) = V := ⟨_, rfl⟩
  rw [hVV] at k0 kA kB B0
  have HVV := Lib.hid hVV
  clear hVV
  rw [hE]
  by_cases hz : E = 0
  case neg =>
    have hz1 : (E != 0) = true := by simpa using hz
    rw [if_neg hz]
    clear hE hl
    go_enter Try.func23, Try.ntmps23
    go_wp2_with (first
      | (go_at_call 29; rw [HVV.out]; refine (checkStowage_any v p A sn sc s V hF hLF (hV.call B0) (hS.call B0) HL.out hsn).mono ?_; rintro e w_1 ⟨rfl, hb_1⟩; rw [HE.out]; have k_1 := k0.call hb_1; have kA1 := kA.call hb_1; have kB1 := kB.call hb_1; have B_1 := B0.trans (hb_1.mono B0.size); obtain ⟨a0, a1, af, az⟩ := kA1.two; obtain ⟨b0, b1, bf, bz⟩ := kB1.two)
      | fail)
    have mA := (((kA1.set_ 0 (.int .i64 0)).set_ 1 (.int .i64 0)).far (p := ⟨w.heap.size + 1 + 1, 0, none⟩) (by simp) (.int .i64 0)).far (p := ⟨w.heap.size + 1 + 1, 1, none⟩) (by simp) (.int .i64 0)
    have mB := (((kB1.far (p := ⟨w.heap.size + 1, 0, none⟩) (by simp) (.int .i64 0)).far (p := ⟨w.heap.size + 1, 1, none⟩) (by simp) (.int .i64 0)).set_ 0 (.int .i64 0)).set_ 1 (.int .i64 0)
    have mW := (((B_1.setCell (p := ⟨w.heap.size + 1, 0, none⟩) (by simp) (.int .i64 0)).setCell (p := ⟨w.heap.size + 1, 1, none⟩) (by simp) (.int .i64 0)).setCell (p := ⟨w.heap.size + 1 + 1, 0, none⟩) (by simp; omega) (.int .i64 0)).setCell (p := ⟨w.heap.size + 1 + 1, 1, none⟩) (by simp; omega) (.int .i64 0)
    obtain ⟨U, hU⟩ : ∃ X, (((w_1.setCell ⟨w.heap.size + 1, 0, none⟩ (.int .i64 0)).setCell ⟨w.heap.size + 1, 1, none⟩ (.int .i64 0)).setCell ⟨w.heap.size + 1 + 1, 0, none⟩ (.int .i64 0)).setCell ⟨w.heap.size + 1 + 1, 1, none⟩ (.int .i64 0) = X := ⟨_, rfl⟩
    rw [hU] at mA mB mW
    have HU := Lib.hid hU
    clear hU
    simp only [List.setIfInBounds_toArray, List.set_cons_zero, List.set_cons_succ] at mA mB
    obtain ⟨p0, p1, pf, pz⟩ := mA.two
    obtain ⟨r0, r1, rf, rz⟩ := mB.two
    rw [HU.out]
    refine bodyPost_ret (v := .tuple #[.agg #[.int .i64 0, .int .i64 0], .agg #[.int .i64 0, .int .i64 0], .int .i64 E]) (by simp [results, Try.results23, go_sem, p0, p1, r0, r1]) rfl ⟨rfl, mW⟩
  subst hz
  have hok := ckSt_ok hE
  have ho := hok.ok
  have hh := inH_held hok.inh
  have hlp : sn ≤ p.ln := by rw [← hV.ll, ← hl, hok.len]; exact Nat.le_refl _
  rw [if_pos rfl]
  obtain ⟨g1, hg1⟩ : ∃ x, deepB v (abd v.ls s) true = x := ⟨_, rfl⟩
  obtain ⟨g2, hg2⟩ : ∃ x, deepS v (abd v.ls s) true = x := ⟨_, rfl⟩
  obtain ⟨q1, hq1⟩ : ∃ x, deepB v (abd v.ls s) false = x := ⟨_, rfl⟩
  obtain ⟨q2, hq2⟩ : ∃ x, deepS v (abd v.ls s) false = x := ⟨_, rfl⟩
  rw [hg1, hg2, hq1, hq2]
  have HG1 := Lib.hid hg1
  have HG2 := Lib.hid hg2
  have HQ1 := Lib.hid hq1
  have HQ2 := Lib.hid hq2
  clear hE hl hg1 hg2 hq1 hq2 hok
  go_enter Try.func23, Try.ntmps23
  go_wp2_with (first
    | (go_at_call 29; rw [HVV.out]; refine (checkStowage_any v p A sn sc s V hF hLF (hV.call B0) (hS.call B0) HL.out hsn).mono ?_; rintro e w_1 ⟨rfl, hb_1⟩; rw [HE.out]; have k_1 := k0.call hb_1; have kA1 := kA.call hb_1; have kB1 := kB.call hb_1; have B_1 := B0.trans (hb_1.mono B0.size))
    | fail)
  have hV1 := hV.call B_1
  have hS1 := hS.call B_1
  have hA1 := kA1.lt
  have hB1 := kB1.lt
  clear k0 kA kB B0 hV hS hb_1 HVV
  refine AnyG.start (fun w' : World => Below w_1.heap.size w_1 w') (fun i => i != 8 && i != 9) (by kernel_rfl) ?_
  have hS : (fun w' : World => Below w_1.heap.size w_1 w') (World.drew _) := (Below.refl _ _).drew
  refine AnyG.takeC (i := 0) (v := ?_) rfl (by kernel_rfl) (fun _ _ _ h => h) rfl ?_ hS ?_
  rotate_left
  · (intro w' hSw; (try dsimp only at hSw); obtain ⟨x0, x1, x2, x3, x4, x5, x6, xf, xz⟩ := (k_1.call hSw).seven; go_simp; try with_reducible rfl)
  try simp only [Act.put, List.setIfInBounds_toArray, List.set_cons_zero, List.set_cons_succ]
  refine AnyG.takeC (i := 1) (v := ?_) rfl (by kernel_rfl) (fun _ _ _ h => h) rfl ?_ hS ?_
  rotate_left
  · (intro w' _; go_simp; try with_reducible rfl)
  try simp only [Act.put, List.setIfInBounds_toArray, List.set_cons_zero, List.set_cons_succ]
  refine AnyG.takeC (i := 3) (v := ?_) rfl (by kernel_rfl) (fun _ _ _ h => h) rfl ?_ hS ?_
  rotate_left
  · (intro w' hSw; (try dsimp only at hSw); obtain ⟨x0, x1, x2, x3, x4, x5, x6, xf, xz⟩ := (k_1.call hSw).seven; go_simp; try with_reducible rfl)
  try simp only [Act.put, List.setIfInBounds_toArray, List.set_cons_zero, List.set_cons_succ]
  refine AnyG.takeC (i := 4) (v := ?_) rfl (by kernel_rfl) (fun _ _ _ h => h) rfl ?_ hS ?_
  rotate_left
  · (intro w' _; go_simp; try with_reducible rfl)
  try simp only [Act.put, List.setIfInBounds_toArray, List.set_cons_zero, List.set_cons_succ]
  refine RegRel.AnyG.rel2 [6, 7] [0, 1, 3, 4] [8, 9] [[], [], [], [], [], [2], [], [], [2, 5, 6, 7], [2, 5, 6, 7, 8]] [(20, 2), (23, 5), (8, 6), (9, 7)] [(2, fun vs _ => vs 2 = .agg #[.int .i64 g1, .int .i64 g2]), (5, fun vs _ => vs 5 = .agg #[.int .i64 q1, .int .i64 q2]), (6, fun vs w1 => ∃ g, vs 6 = .pointer (some ⟨g, 0, none⟩) ∧ w_1.heap.size ≤ g ∧ Bx w1 g 93 #[.int .i64 0, .int .i64 0]), (7, fun vs w1 => ∃ g, vs 7 = .pointer (some ⟨g, 0, none⟩) ∧ w_1.heap.size ≤ g ∧ Bx w1 g 93 #[.int .i64 0, .int .i64 0])]
    (by kernel_rfl) (by kernel_rfl) (by kernel_rfl) (by kernel_rfl) (by decide) (by decide) (fun _ h => Below.trans ((Below.refl w_1.heap.size w_1).drew) h) ?hst ?hcg ?hstep ?hfin
  case hst => exact ⟨fun _ _ _ h _ => h, fun _ _ _ h _ => h, fun _ _ _ ⟨g, h1, h2, h3⟩ hb => ⟨g, h1, h2, h3.call hb⟩, fun _ _ _ ⟨g, h1, h2, h3⟩ hb => ⟨g, h1, h2, h3.call hb⟩, trivial⟩
  case hcg => exact ⟨fun _ _ _ he h => (he 2 (by simp)).trans h, fun _ _ _ he h => (he 5 (by simp)).trans h, fun _ _ _ he ⟨g, h1, h2⟩ => ⟨g, (he 6 (by simp)).trans h1, h2⟩, fun _ _ _ he ⟨g, h1, h2⟩ => ⟨g, (he 7 (by simp)).trans h1, h2⟩, trivial⟩
  case hstep =>
    refine ⟨?_, ?_, ?_, ?_, trivial⟩
    · rintro vs v1 - hv
      refine ⟨_, _, rfl, rfl, ?_⟩
      clear hS
      simp only [RegRel.fillT, List.foldl_cons, List.foldl_nil, List.setIfInBounds_toArray, List.set_cons_zero, List.set_cons_succ]
      go_simp
      have hv2 : Below w_1.heap.size w_1 v1 := ((Below.refl w_1.heap.size w_1).drew).trans hv
      refine (depths_any v p A sn sc s true _ ho (hV1.call hv2) (hS1.call hv2) HL.out (by omega) hh).mono ?_
      rintro rr v2 ⟨rfl, hb2⟩
      rw [HG1.out, HG2.out]
      first | exact ⟨rfl, hb2, rfl, fun h => absurd h (by decide)⟩ | exact ⟨rfl, hb2, fun h => absurd h (by decide)⟩ | exact ⟨rfl, hb2, rfl⟩ | exact ⟨rfl, hb2⟩ | trace_state
    · rintro vs v1 ⟨h2, -⟩ hv
      refine ⟨_, _, rfl, rfl, ?_⟩
      clear hS
      try dsimp only at h2
      simp only [RegRel.fillT, List.foldl_cons, List.foldl_nil, List.setIfInBounds_toArray, List.set_cons_zero, List.set_cons_succ]
      clear h2
      go_simp
      have hv2 : Below w_1.heap.size w_1 v1 := ((Below.refl w_1.heap.size w_1).drew).trans hv
      refine (depths_any v p A sn sc s false _ ho (hV1.call hv2) (hS1.call hv2) HL.out (by omega) hh).mono ?_
      rintro rr v2 ⟨rfl, hb2⟩
      rw [HQ1.out, HQ2.out]
      first | exact ⟨rfl, hb2, rfl, fun h => absurd h (by decide)⟩ | exact ⟨rfl, hb2, fun h => absurd h (by decide)⟩ | exact ⟨rfl, hb2, rfl⟩ | exact ⟨rfl, hb2⟩ | trace_state
    · rintro vs v1 - hv
      refine ⟨_, _, rfl, rfl, ?_⟩
      clear hS
      simp only [RegRel.fillT, List.foldl_cons, List.foldl_nil, List.setIfInBounds_toArray, List.set_cons_zero, List.set_cons_succ]
      go_simp
      have hva : w_1.heap.size ≤ v1.heap.size := hv.size
      refine ⟨⟨_, rfl, ?_, Bx.new _ _ _⟩, (Below.refl _ _).alloc (Nat.le_refl _) _⟩
      omega
    · rintro vs v1 - hv
      refine ⟨_, _, rfl, rfl, ?_⟩
      clear hS
      simp only [RegRel.fillT, List.foldl_cons, List.foldl_nil, List.setIfInBounds_toArray, List.set_cons_zero, List.set_cons_succ]
      go_simp
      have hva : w_1.heap.size ≤ v1.heap.size := hv.size
      refine ⟨⟨_, rfl, ?_, Bx.new _ _ _⟩, (Below.refl _ _).alloc (Nat.le_refl _) _⟩
      omega
  case hfin =>
    rintro vs v1 ⟨h2, h5, ⟨g6, h6, hg6, hx6⟩, ⟨g7, h7, hg7, hx7⟩, -⟩ hv hdist
    clear hS
    try dsimp only at h2 h5 h6 h7
    have hne6_7 : g6 ≠ g7 := fun e => hdist 6 (by simp) 7 (by simp) (by decide) (by rw [h6, h7, e])
    clear hdist
    simp only [List.filter_cons, List.contains_cons, List.contains_nil, Nat.reduceBEq, Bool.or_false, Bool.not_false, if_true, List.filter_nil]
    simp only [RegRel.fillT, List.foldl_cons, List.foldl_nil, List.setIfInBounds_toArray, List.set_cons_zero, List.set_cons_succ]
    simp only [h2, h5, h6, h7]
    clear h2 h5 h6 h7
    have hvW : Below w_1.heap.size w_1 v1 := ((Below.refl w_1.heap.size w_1).drew).trans hv
    obtain ⟨r0, r1, rf, rz⟩ := hx6.two
    obtain ⟨y0, y1, yf, yz⟩ := hx7.two
    refine RegRel.wpOps_go rfl rfl ?_
    go_simp
    refine RegRel.wpOps_go rfl rfl ?_
    go_simp
    refine RegRel.wpOps_end ?_
    go_simp
    clear r0 r1 rf rz y0 y1 yf yz
    have M6 := ((((hx6.set_ 0 (.int .i64 g1)).set_ 1 (.int .i64 g2)).far (p := ⟨g7, 0, none⟩) hne6_7 (.int .i64 q1)).far (p := ⟨g7, 1, none⟩) hne6_7 (.int .i64 q2))
    have M7 := ((((hx7.far (p := ⟨g6, 0, none⟩) (Ne.symm hne6_7) (.int .i64 g1)).far (p := ⟨g6, 1, none⟩) (Ne.symm hne6_7) (.int .i64 g2)).set_ 0 (.int .i64 q1)).set_ 1 (.int .i64 q2))
    have MB := ((((hvW.setCell (p := ⟨g6, 0, none⟩) hg6 (.int .i64 g1)).setCell (p := ⟨g6, 1, none⟩) hg6 (.int .i64 g2)).setCell (p := ⟨g7, 0, none⟩) hg7 (.int .i64 q1)).setCell (p := ⟨g7, 1, none⟩) hg7 (.int .i64 q2))
    simp only [List.setIfInBounds_toArray, List.set_cons_zero, List.set_cons_succ] at M6 M7
    obtain ⟨U, hU⟩ : ∃ X, (((v1.setCell ⟨g6, 0, none⟩ (.int .i64 g1)).setCell ⟨g6, 1, none⟩ (.int .i64 g2)).setCell ⟨g7, 0, none⟩ (.int .i64 q1)).setCell ⟨g7, 1, none⟩ (.int .i64 q2) = X := ⟨_, rfl⟩
    rw [hU] at M6 M7 MB
    have HU := Lib.hid hU
    rw [HU.out]
    clear hU hx6 hx7 hv hvW
    have kA2 := kA1.grown (grown_below (row := none) MB) (by simp)
    have kB2 := kB1.grown (grown_below (row := none) MB) (by simp)
    have B2 := B_1.trans (MB.mono B_1.size)
    obtain ⟨r0, r1, rf, rz⟩ := M6.two
    obtain ⟨y0, y1, yf, yz⟩ := M7.two
    obtain ⟨a0, a1, af, az⟩ := kA2.two
    obtain ⟨b0, b1, bf, bz⟩ := kB2.two
    have hne6 : g6 ≠ w.heap.size + 1 := by omega
    have hne7 : g7 ≠ w.heap.size + 1 := by omega
    go_wp2_with fail
    have N4 := ((kA2.set_ 0 (.int .i64 g1)).set_ 1 (.int .i64 q1)).far (p := ⟨w.heap.size + 1 + 1, 0, none⟩) (by simp) (.int .i64 g2)
    have N4 := N4.far (p := ⟨w.heap.size + 1 + 1, 1, none⟩) (by simp) (.int .i64 q2)
    have N5 := (((kB2.far (p := ⟨w.heap.size + 1, 0, none⟩) (by simp) (.int .i64 g1)).far (p := ⟨w.heap.size + 1, 1, none⟩) (by simp) (.int .i64 q1)).set_ 0 (.int .i64 g2)).set_ 1 (.int .i64 q2)
    have NB := (((B2.setCell (p := ⟨w.heap.size + 1, 0, none⟩) (by simp) (.int .i64 g1)).setCell (p := ⟨w.heap.size + 1, 1, none⟩) (by simp) (.int .i64 q1)).setCell (p := ⟨w.heap.size + 1 + 1, 0, none⟩) (by simp; omega) (.int .i64 g2)).setCell (p := ⟨w.heap.size + 1 + 1, 1, none⟩) (by simp; omega) (.int .i64 q2)
    simp only [List.setIfInBounds_toArray, List.set_cons_zero, List.set_cons_succ] at N4 N5
    obtain ⟨X, hX⟩ : ∃ X, (((U.setCell ⟨w.heap.size + 1, 0, none⟩ (.int .i64 g1)).setCell ⟨w.heap.size + 1, 1, none⟩ (.int .i64 q1)).setCell ⟨w.heap.size + 1 + 1, 0, none⟩ (.int .i64 g2)).setCell ⟨w.heap.size + 1 + 1, 1, none⟩ (.int .i64 q2) = X := ⟨_, rfl⟩
    rw [hX] at N4 N5 NB
    rw [hX]
    clear hX r0 r1 rf rz y0 y1 yf yz a0 a1 af az b0 b1 bf bz kA2 kB2 B2 M6 M7 MB
    refine AnyG.startC (by kernel_rfl) ?_
    refine AnyG.enter (fun w' : World => Bx w' (w.heap.size + 1) 41 #[.int .i64 g1, .int .i64 q1] ∧ Bx w' (w.heap.size + 1 + 1) 41 #[.int .i64 g2, .int .i64 q2] ∧ Below w.heap.size w w') (fun i => i != 3 && i != 4) ?_
    have hS : (fun w' : World => Bx w' (w.heap.size + 1) 41 #[.int .i64 g1, .int .i64 q1] ∧ Bx w' (w.heap.size + 1 + 1) 41 #[.int .i64 g2, .int .i64 q2] ∧ Below w.heap.size w w') (World.drew _) := ⟨N4.drew, N5.drew, NB.drew⟩
    obtain ⟨y0, hy0⟩ : ∃ y, X.drew = y := ⟨_, rfl⟩
    rw [hy0] at hS ⊢
    clear hy0
    refine AnyG.takeC (i := 0) (v := ?_) rfl (by kernel_rfl) (fun _ _ _ h => h) rfl ?_ hS ?_
    rotate_left
    · (intro w' hSw; (try dsimp only at hSw); obtain ⟨x0, x1, xf, xz⟩ := hSw.1.two; go_simp; try with_reducible rfl)
    try simp only [Act.put, List.getElem_toArray, List.getElem_cons_succ, List.getElem_cons_zero, List.setIfInBounds_toArray, List.set_cons_zero, List.set_cons_succ]
    refine AnyG.takeC (i := 1) (v := ?_) rfl (by kernel_rfl) (fun _ _ _ h => h) rfl ?_ hS ?_
    rotate_left
    · (intro w' hSw; (try dsimp only at hSw); obtain ⟨x0, x1, xf, xz⟩ := hSw.2.1.two; go_simp; try with_reducible rfl)
    try simp only [Act.put, List.getElem_toArray, List.getElem_cons_succ, List.getElem_cons_zero, List.setIfInBounds_toArray, List.set_cons_zero, List.set_cons_succ]
    refine AnyG.one (i := 2) (by kernel_rfl) rfl rfl ?_
    obtain ⟨x0, x1, xf, xz⟩ := hS.1.two
    have hE0 := hS
    go_simp
    clear x0 x1 xf xz
    refine Onward.on (by exact And.intro (bx_same2 hE0.1) (And.intro ((hE0.2.1.far (p := ⟨w.heap.size + 1, 0, none⟩) (by simp) (.int .i64 g1)).far (p := ⟨w.heap.size + 1, 1, none⟩) (by simp) (.int .i64 q1)) ((hE0.2.2.setCell (p := ⟨w.heap.size + 1, 0, none⟩) (by simp) (.int .i64 g1)).setCell (p := ⟨w.heap.size + 1, 1, none⟩) (by simp) (.int .i64 q1)))) (fun hS2 => ?_)
    clear hS
    have hS := hS2
    clear hS2
    obtain ⟨y2, hy2⟩ : ∃ y, (y0.setCell ⟨w.heap.size + 1, 0, none⟩ (.int .i64 g1)).setCell ⟨w.heap.size + 1, 1, none⟩ (.int .i64 q1) = y := ⟨_, rfl⟩
    rw [hy2] at hS ⊢
    clear hy2 hE0
    try simp only [Act.put, List.getElem_toArray, List.getElem_cons_succ, List.getElem_cons_zero, List.setIfInBounds_toArray, List.set_cons_zero, List.set_cons_succ]
    refine AnyG.one (i := 3) (by kernel_rfl) rfl rfl ?_
    obtain ⟨x0, x1, xf, xz⟩ := hS.2.1.two
    have hE := hS
    go_simp
    clear x0 x1 xf xz
    refine Onward.last rfl ?_
    try simp only [Act.put, List.getElem_toArray, List.getElem_cons_succ, List.getElem_cons_zero, List.setIfInBounds_toArray, List.set_cons_zero, List.set_cons_succ]
    refine AnyG.one (i := 4) (by kernel_rfl) rfl rfl ?_
    go_simp
    refine Onward.last rfl ?_
    try simp only [Act.put, List.getElem_toArray, List.getElem_cons_succ, List.getElem_cons_zero, List.setIfInBounds_toArray, List.set_cons_zero, List.set_cons_succ]
    refine AnyG.done (by kernel_rfl) ?_ _
    go_wp2_with fail
    have f4 := hE.1
    have f5 := (hE.2.1.set_ 0 (.int .i64 g2)).set_ 1 (.int .i64 q2)
    have f4 := (f4.far (p := ⟨w.heap.size + 1 + 1, 0, none⟩) (by simp) (.int .i64 g2)).far (p := ⟨w.heap.size + 1 + 1, 1, none⟩) (by simp) (.int .i64 q2)
    have fB := (hE.2.2.setCell (p := ⟨w.heap.size + 1 + 1, 0, none⟩) (by simp; omega) (.int .i64 g2)).setCell (p := ⟨w.heap.size + 1 + 1, 1, none⟩) (by simp; omega) (.int .i64 q2)
    obtain ⟨Z, hZ⟩ : ∃ Z, (y2.setCell ⟨w.heap.size + 1 + 1, 0, none⟩ (.int .i64 g2)).setCell ⟨w.heap.size + 1 + 1, 1, none⟩ (.int .i64 q2) = Z := ⟨_, rfl⟩
    rw [hZ] at f4 f5 fB ⊢
    simp only [List.setIfInBounds_toArray, List.set_cons_zero, List.set_cons_succ] at f5
    obtain ⟨r0, r1, rf, rz⟩ := f4.two
    obtain ⟨y0, y1, yf, yz⟩ := f5.two
    exact bodyPost_ret (v := .tuple #[.agg #[.int .i64 g1, .int .i64 q1], .agg #[.int .i64 g2, .int .i64 q2], .int .i64 0]) (by simp [results, Try.results23, go_sem, r0, r1, y0, y1]) rfl ⟨rfl, fB⟩
end Go.Proofs.Ytfcpjkofbejleaa

/-! The water over a sill; the moments at which it is looked at. -/
namespace Go.Proofs.Ytfcpjkofbejleaa
open Go Go.RowKit
def lvL (L : List Lv) (g : Bool) : List (Int × Int) := L.map fun l => (l.fr, if g then l.d1 else l.d0)
theorem dpt_take {L : List Lv} {g : Bool} {m : Int} {k : Nat} (hk : k < L.length) : dpt (lvL (L.take (k + 1)) g) m = if L[k].fr ≤ m then (if g then L[k].d1 else L[k].d0) else dpt (lvL (L.take k) g) m := by
  unfold dpt lvL
  rw [List.take_succ_eq_append_getElem hk, List.map_append, List.foldl_append]
  rfl
theorem own_one (w : World) (base : Nat) (e : TypeId) (u : Value) (hb : base ≤ w.heap.size) : (w.alloc (.cells #[u] e)).ownsRow base e 1 (.slice (some ⟨w.heap.size, 0, none⟩) 1 1) 1 [u] :=
  ⟨rfl, .inr ⟨w.heap.size, 1, #[u], rfl, hb, heap_alloc_new w _, Nat.le_refl _, by unfold maxLen; omega, rfl, rfl⟩⟩
def momL (L : List Lv) (c : Int) : List Int := if 2880 < c then [] else c :: (L.filter fun l => decide (c < l.fr)).map (·.fr)
theorem mts_momL (L : List Lv) (g : Bool) (c : Int) : mts (lvL L g) c = momL L c := by
  unfold mts momL lvL
  split
  · rfl
  · rw [List.filter_map, List.map_map]; rfl
theorem momF_take {L : List Lv} {c : Int} {k : Nat} (hk : k < L.length) : ((L.take (k + 1)).filter fun l => decide (c < l.fr)).map (·.fr) = ((L.take k).filter fun l => decide (c < l.fr)).map (·.fr) ++ (if c < L[k].fr then [L[k].fr] else []) := by
  rw [List.take_succ_eq_append_getElem hk, List.filter_append, List.map_append]
  by_cases h : c < L[k].fr
  · rw [if_pos h, List.filter_cons_of_pos (by simpa using h)]; rfl
  · rw [if_neg h, List.filter_cons_of_neg (by simpa using h)]; rfl
set_option maxHeartbeats 800000 in
theorem depth_any (g : Bool) (A : Option Addr) (n c : Nat) (L : List Lv) (m : Int) (w : World) (hn : n ≤ 1000) (hl : L.length = n) (hA : Sl w w.heap.size 3 A (L.map lvr)) :
    Calls Try.prog 96 #[.agg #[.bool g, .slice A n c], .int .i64 m] w fun e w' => e = .returned (.int .i64 (dpt (lvL L g) m)) ∧ Below w.heap.size w w' := by
  have HL := Lib.hid hl
  have k0 := Bx.new w 145 #[.bool g, .slice A n c]
  have B0 := (Below.refl w.heap.size w).alloc (Nat.le_refl _) (.cells #[.bool g, .slice A n c] 145)
  clear hl
  go_enter Try.func96, Try.ntmps96
  go_wp2_with fail
  go_loopw [5, 11] (fun d i wr => ∃ k : Nat, i = .int .i64 k ∧ k ≤ n ∧ d = .int .i64 (dpt (lvL (L.take k) g) m) ∧ Bx wr w.heap.size 145 #[.bool g, .slice A n c] ∧ Below w.heap.size w wr) (fun _ i _ => n - (intOf i).toNat)
  case atStart => exact ⟨0, rfl, by omega, by simp [lvL, dpt], k0, B0⟩
  case round =>
    obtain ⟨k, rfl, hk, rfl, kx, hB⟩ := hrel
    obtain ⟨D, hD⟩ : ∃ D, dpt (lvL (L.take k) g) m = D := ⟨_, rfl⟩
    rw [hD]
    have HD := Lib.hid hD
    clear hD
    by_cases hkn : k < n
    · have hke : k < L.length := by rw [HL.out]; exact hkn
      obtain ⟨ad, rfl, _, q0, q1, q2⟩ := lv_at ((hA.below hB).more hB.size) hke
      have hds := dpt_take (g := g) (m := m) hke
      rw [HD.out] at hds
      generalize L[k] = b at *
      have k1 := kx.alloc (.cells #[.int .i64 b.fr, .int .i64 b.d0, .int .i64 b.d1] 75)
      have kb := Bx.new wr 75 #[.int .i64 b.fr, .int .i64 b.d0, .int .i64 b.d1]
      have B1 := hB.alloc hB.size (.cells #[.int .i64 b.fr, .int .i64 b.d0, .int .i64 b.d1] 75)
      obtain ⟨s0, s1, sf, sz⟩ := k1.two
      by_cases hf : b.fr ≤ m
      · have hd' : Hid (dpt (lvL (L.take (k + 1)) g) m = if g = true then b.d1 else b.d0) := Lib.hid (by rw [hds, if_pos hf])
        have hdf : decide (b.fr ≤ m) = true := by simpa using hf
        clear hds
        go_wp2_with (first | (go_at_call 104; refine (helps_any g _ _ _).mono ?_; rintro e w1 ⟨rfl, hb⟩; rw [← hd'.out]) | fail)
        go_roundw
        case rel => exact ⟨k + 1, by go_num, by omega, rfl, k1.call hb, B1.trans (hb.mono B1.size)⟩
        case measure => simp [intOf]; omega
      · have hd' : Hid (dpt (lvL (L.take (k + 1)) g) m = D) := Lib.hid (by rw [hds, if_neg hf])
        have hdf : decide (b.fr ≤ m) = false := by simpa using hf
        clear hds
        go_wp2_with fail
        go_roundw
        case rel => exact ⟨k + 1, by go_num, by omega, by rw [hd'.out], k1, B1⟩
        case measure => simp [intOf]; omega
    · go_wp2_with fail
      go_ret
      exact ⟨ret_int (by rw [← HD.out, List.take_of_length_le (by rw [HL.out]; omega)]), hB⟩
set_option maxRecDepth 100000 in
set_option maxHeartbeats 2000000 in
theorem moments_any (t0 t1 : Int) (A : Option Addr) (n c : Nat) (L : List Lv) (m : Int) (w : World) (hn : n ≤ 1000) (hl : L.length = n) (hA : Sl w w.heap.size 3 A (L.map lvr)) :
    Calls Try.prog 97 #[.agg #[.int .i64 t0, .int .i64 t1, .slice A n c], .int .i64 m] w fun e w' => (∃ X x, e = .returned (.slice X (momL L m).length x) ∧ Sl w' w'.heap.size 1 X (inr (momL L m))) ∧ Below w.heap.size w w' := by
  have HL := Lib.hid hl
  have k0 := Bx.new w 73 #[.int .i64 t0, .int .i64 t1, .slice A n c]
  have B0 := (Below.refl w.heap.size w).alloc (Nat.le_refl _) (.cells #[.int .i64 t0, .int .i64 t1, .slice A n c] 73)
  clear hl
  obtain ⟨i3, hi3, hz3, hs3, iy3⟩ := info_parts info3'
  by_cases hm : 2880 < m
  · have hdm : decide (2880 < m) = true := by simpa using hm
    have HM : Hid (momL L m = []) := Lib.hid (by unfold momL; rw [if_pos hm])
    go_enter Try.func97, Try.ntmps97
    go_wp2_with fail
    go_ret
    exact ⟨⟨none, 0, by rw [HM.out]; rfl, by rw [HM.out]; exact Sl.nil _ _ _ _⟩, B0⟩
  have hdm : decide (2880 < m) = false := by simpa using hm
  have HM : Hid (momL L m = m :: (L.filter fun l => decide (m < l.fr)).map (·.fr)) := Lib.hid (by unfold momL; rw [if_neg hm])
  go_enter Try.func97, Try.ntmps97
  go_wp2_with fail
  have O0 := (own_one (w.alloc (.cells #[.int .i64 t0, .int .i64 t1, .slice A n c] 73)) w.heap.size 3 (.int .i64 m) (by simp))
  have B1 := B0.alloc (by simp) (.cells #[.int .i64 m] 3)
  simp only [World.size_alloc] at O0
  go_loopw [5, 15] (fun lv i wr => ∃ (k q : Nat) (X : Option Addr) (x : Nat) (F : List Int), i = .int .i64 k ∧ k ≤ n ∧ lv = .slice X q x ∧ Hid (q = 1 + F.length ∧ F.length ≤ k ∧ F = ((L.take k).filter fun l => decide (m < l.fr)).map (·.fr)) ∧ wr.ownsRow w.heap.size 3 1 (.slice X q x) q (inr (m :: F)).flatten ∧ Below w.heap.size w wr) (fun _ i _ => n - (intOf i).toNat)
  case atStart => exact ⟨0, 1, some ⟨w.heap.size + 1, 0, none⟩, 1, [], rfl, by omega, rfl, Lib.hid ⟨rfl, Nat.le_refl _, by simp⟩, O0, B1⟩
  case round =>
    clear O0 B1
    obtain ⟨k, q, X, x, F, rfl, hk, rfl, hF, OO, hB⟩ := hrel
    by_cases hkn : k < n
    · have hke : k < L.length := by rw [HL.out]; exact hkn
      obtain ⟨ad, rfl, _, q0, q1, q2⟩ := lv_at ((hA.below hB).more hB.size) hke
      have hds := momF_take (c := m) hke
      generalize L[k] = b at *
      have B1 := hB.alloc hB.size (.cells #[.int .i64 b.fr, .int .i64 b.d0, .int .i64 b.d1] 75)
      have O1 := own_bel OO ((Below.refl wr.heap.size wr).alloc (Nat.le_refl _) (.cells #[.int .i64 b.fr, .int .i64 b.d0, .int .i64 b.d1] 75))
      have kb := Bx.new wr 75 #[.int .i64 b.fr, .int .i64 b.d0, .int .i64 b.d1]
      obtain ⟨s0, s1, s2, sf, sz⟩ := kb.three'
      have hq := hF.out
      have hq1 : q ≤ 1001 := by omega
      by_cases hf : m < b.fr
      · have hF' : Hid (q + 1 = 1 + (F ++ [b.fr]).length ∧ (F ++ [b.fr]).length ≤ k + 1 ∧ F ++ [b.fr] = ((L.take (k + 1)).filter fun l => decide (m < l.fr)).map (·.fr)) := Lib.hid ⟨by simp; omega, by simp; omega, by rw [hds, if_pos hf, ← hq.2.2]⟩
        have hdf : decide (m < b.fr) = true := by simpa using hf
        have O2 := own_bel O1 ((Below.refl _ _).alloc (Nat.le_refl _) (.cells #[.int .i64 b.fr] 3))
        have kn := Bx.at (wr.alloc (.cells #[.int .i64 b.fr, .int .i64 b.d0, .int .i64 b.d1] 75)) 3 #[.int .i64 b.fr] (n := wr.heap.size + 1) (by simp)
        have hsz := hB.size
        clear hds hq
        go_wp2_with (first
          | (at_builtin; refine wpList_append_own _ rfl (.tmp 23) (.tmp 26) 27 rfl w.heap.size 3 i3 _ 1 8 Try.underlying27 hi3 hz3 hs3 iy3 rfl (by decide) (.slice X q x) q (inr (m :: F)).flatten rfl O2 ⟨wr.heap.size + 1, 0, none⟩ 1 1 [.int .i64 b.fr] rfl rfl (bx_news kn) (by simp [Value.oneCell']) (by unfold maxLen; omega) (by omega) (by simp; omega) ?_; intro v' w' o1 o2 o3; obtain ⟨X', x', rfl⟩ := own_shape o1)
          | fail)
        go_roundw
        case rel =>
          refine ⟨k + 1, q + 1, X', x', F ++ [b.fr], by go_num, by omega, rfl, hF', ?_, ?_⟩
          · have e : (inr (m :: (F ++ [b.fr]))).flatten = (inr (m :: F)).flatten ++ [.int .i64 b.fr] := by rw [← inr_snoc]; rfl
            rw [e]; exact o1
          · exact (B1.alloc B1.size (.cells #[.int .i64 b.fr] 3)).grown o2 (by simp; omega) (fun k e => (O2.lt k e).1)
        case measure => simp [intOf]; omega
      · have hF' : Hid (q = 1 + F.length ∧ F.length ≤ k + 1 ∧ F = ((L.take (k + 1)).filter fun l => decide (m < l.fr)).map (·.fr)) := Lib.hid ⟨hq.1, by omega, by rw [hds, if_neg hf, List.append_nil, ← hq.2.2]⟩
        have hdf : decide (m < b.fr) = false := by simpa using hf
        clear hds hq
        go_wp2_with fail
        go_roundw
        case rel => exact ⟨k + 1, q, X, x, F, by go_num, by omega, rfl, hF', O1, B1⟩
        case measure => simp [intOf]; omega
    · go_wp2_with fail
      go_ret
      obtain ⟨h1, h2, h3⟩ := hF.out
      rw [List.take_of_length_le (by rw [HL.out]; omega)] at h3
      have hm2 : momL L m = m :: F := by rw [HM.out, h3]
      refine ⟨⟨X, x, ?_, ?_⟩, hB⟩
      · rw [hm2, show (m :: F).length = q by simp; omega]; rfl
      · rw [hm2]; exact own_inr OO (by simp; omega)
end Go.Proofs.Ytfcpjkofbejleaa
