/- ShipMost. -/
import Derived.Test.YtfcpjkofbejleaaSo
import Derived.Test.YtfcpjkofbejleaaTr
set_option linter.unusedSimpArgs false
set_option linter.unusedVariables false
namespace Go.Proofs.Ytfcpjkofbejleaa
open Go Go.RowKit
/-- What the lots in holds are worth. -/
def worZ (Z : List (Cg × Int)) : Int := (Z.map fun p => if 0 ≤ p.2 then p.1.wo else 0).sum
theorem worZ_take (Z : List (Cg × Int)) {k : Nat} (hk : k < Z.length) : worZ (Z.take (k + 1)) = worZ (Z.take k) + (if 0 ≤ Z[k].2 then Z[k].1.wo else 0) := by
  unfold worZ
  rw [List.take_succ_eq_append_getElem hk, List.map_append, List.sum_append]
  simp only [List.map_cons, List.map_nil, List.sum_cons, List.sum_nil, Int.add_zero]
theorem worZ_bd : ∀ {Z : List (Cg × Int)}, (∀ p ∈ Z, p.1.Ok) → 0 ≤ worZ Z ∧ worZ Z ≤ 100000 * Z.length
  | [], _ => by simp [worZ]
  | p :: r, h => by
    have ih := worZ_bd (Z := r) fun q hq => h q (by simp [hq])
    have o := (h p (by simp)).wo
    unfold worZ at ih ⊢
    simp only [List.map_cons, List.sum_cons, List.length_cons]
    split <;> omega
theorem worZ_wor : ∀ {ls : List Cg} {s : List Int}, (∀ h ∈ s, -1 ≤ h) → worZ (ls.zip s) = worM (abd ls s)
  | [], s, _ => by simp [worZ, worM, abd]
  | c :: ls, [], _ => by simp [worZ, worM, abd]
  | c :: ls, x :: s, h => by
    have ih := worZ_wor (ls := ls) (s := s) fun y hy => h y (by simp [hy])
    have hx := h x (by simp)
    unfold worZ worM abd at ih ⊢
    simp only [List.zip_cons_cons, List.map_cons, List.sum_cons]
    by_cases e : x = -1
    · rw [List.filter_cons_of_neg (a := (c, x)) (by simpa using e), if_neg (by omega)]
      omega
    · rw [List.filter_cons_of_pos (a := (c, x)) (by simpa using e), if_pos (by omega)]
      simp only [List.map_cons, List.sum_cons]
      omega
theorem wor_nonneg {v : Vg} (ho : v.Ok) (s : List Int) : 0 ≤ worM (abd v.ls s) := by
  unfold worM
  have : ∀ (L : List (Cg × Int)), (∀ p ∈ L, 0 ≤ p.1.wo) → 0 ≤ (L.map fun p => p.1.wo).sum := fun L => by
    induction L with
    | nil => intro _; simp
    | cons p r ih =>
      intro h
      have h1 := h p (by simp)
      have h2 := ih fun q hq => h q (by simp [hq])
      simp only [List.map_cons, List.sum_cons]
      omega
  exact this _ fun p hp => (ho.ls _ (abd_mem hp).1).wo.1
theorem room_bad {v : Vg} {s : List Int} (hc : ckV v = 0) (hl : s.length = v.ls.length) (hi : InH v.hs.length s) (h : ckSt v s ≠ 0) : okB v s = false := by
  cases hr : roomOk v.hs (abd v.ls s) with
  | false => unfold okB; rw [hr]; rfl
  | true =>
    refine absurd ?_ h
    unfold ckSt
    rw [if_neg (by rw [hc]; simp), if_neg (by rw [hl]; simp), if_neg (by rw [inHb_iff.2 hi]; simp), if_neg (by rw [hr]; simp)]
theorem room_good {v : Vg} {s : List Int} (h : ckSt v s = 0) : okB v s = (lvlOk v (tiltP v.hs (abd v.ls s)) && passM v (abd v.ls s)) := by
  unfold okB
  rw [(ckSt_ok h).room, Bool.true_and]
/-- The most worth so far, and where. -/
def MostAt (wo : List Int → Int) (L : List (List Int)) (k : Nat) (r : Option (List Int)) (mo at_ : Int) : Prop :=
  (r = none ∧ mo = -1 ∧ at_ = -1) ∨ ∃ (m : List Int) (j : Nat), r = some m ∧ mo = wo m ∧ at_ = j ∧ j < k ∧ L[j]? = some m
theorem MostAt.pick {ok : List Int → Bool} {wo : List Int → Int} {L : List (List Int)} {k : Nat} {r : Option (List Int)} {mo a : Int} (h : MostAt wo L k r mo a) (x : List Int) : pick ok wo r x = if ok x = true ∧ mo < wo x then some x else r := by
  rcases h with ⟨rfl, rfl, _⟩ | ⟨m, j, rfl, rfl, _⟩ <;> rfl
theorem MostAt.no {ok : List Int → Bool} {wo : List Int → Int} {L : List (List Int)} {k : Nat} {mo a : Int} (h : MostAt wo L k (bst ok wo (L.take k)) mo a) (hk : k < L.length) (hn : ¬ (ok L[k] = true ∧ mo < wo L[k])) : MostAt wo L (k + 1) (bst ok wo (L.take (k + 1))) mo a := by
  rw [List.take_succ_eq_append_getElem hk, best_snoc]
  rw [h.pick, if_neg hn]
  rcases h with h | ⟨m, j, h1, h2, h3, h4, h5⟩
  · exact .inl h
  · exact .inr ⟨m, j, h1, h2, h3, by omega, h5⟩
theorem MostAt.yes {ok : List Int → Bool} {wo : List Int → Int} {L : List (List Int)} {k : Nat} {mo a : Int} (h : MostAt wo L k (bst ok wo (L.take k)) mo a) (hk : k < L.length) (h1 : ok L[k] = true) (h2 : mo < wo L[k]) : MostAt wo L (k + 1) (bst ok wo (L.take (k + 1))) (wo L[k]) k := by
  rw [List.take_succ_eq_append_getElem hk, best_snoc]
  rw [h.pick, if_pos ⟨h1, h2⟩]
  exact .inr ⟨_, k, rfl, rfl, rfl, by omega, List.getElem?_eq_getElem hk⟩
theorem best_post {w w' : World} {n : Nat} {wo : List Int → Int} {r : Option (List Int)} {e : Ending} (h : BestPost w n wo r e w') : ∃ (A : Option Addr) (m c : Nat) (b : Int), e = .returned (.tuple #[.slice A m c, .int .i64 b, .int .i64 0]) ∧ ((r = none ∧ m = 0 ∧ b = -1) ∨ ∃ s, r = some s ∧ m = n ∧ b = wo s ∧ w'.ownsRow w.heap.size 3 1 (.slice A m c) m (inr s).flatten) := by
  unfold BestPost at h
  cases r with
  | none => exact ⟨_, _, _, _, h, .inl ⟨rfl, rfl, rfl⟩⟩
  | some s =>
    obtain ⟨A, c, e, o⟩ := h
    exact ⟨_, _, _, _, e, .inr ⟨s, rfl, rfl, rfl, o⟩⟩
theorem verd_pass {v : Vg} {L : List (Cg × Int)} {a : Nat} : verdM v.ss.length a (salM v L false).length = 1 ↔ passM v L = true := by
  unfold verdM passM
  rw [decide_eq_true_eq]
  constructor
  · intro h
    split at h
    · assumption
    · split at h <;> cases h
  · intro h
    rw [if_pos h]
set_option maxRecDepth 100000 in
set_option maxHeartbeats 8000000 in
theorem shipMost_run (A : Option Addr) (n c : Nat) (L : List Int) (w : World) (hn : n ≤ 9000000000000000000) (hl : L.length = n) (hA : Sl w w.heap.size 1 A (ints L)) : Calls Try.prog 11 #[.slice A n c] w fun e w' => e = .returned (.bool true) ∧ Below w.heap.size w w' := by
  have HL := Lib.hid hl
  clear hl
  obtain ⟨i3, hi3, hz3, hs3, iy3⟩ := info_parts info3'
  go_enter Try.func11, Try.ntmps11
  go_upto_region 3 with (first
    | (go_at_call 16; refine (feedOf_any A n c L _ hn HL.out hA).mono ?_; rintro e w1 ⟨⟨g, rfl, hg0, hfd⟩, hb1⟩)
    | (go_at_call 18; have U1 := (FT.self hfd).alloc (.cells #[.int .i64 4, .int .i64 30] 3); refine (either_any g w1.heap.size 2 #[.int .i64 4, .int .i64 30] (fun z => z = 4 ∨ z = 30) _ U1.2 (Bx.new w1 3 _) (by have := hfd.lt; omega) (by omega) (by omega) (bx2 _ (by omega) (by omega))).mono ?_; rintro e w2 ⟨⟨T, rfl, hT⟩, hf2, hg2⟩; have U2 := U1.call hg2 hf2; clear hf2 hg2 U1)
    | (go_at_call 17; refine (voyageOf_any g 2 2 4 T _ U2.2 (by omega) (by omega) (by omega) (by omega) (by omega) (by omega) (by omega) (by omega)).mono ?_; rintro e w3 ⟨⟨v, p, hsm, hFit, rfl, hV0⟩, hU3⟩; have U3 : FT g w1 w3 := ⟨grownF_trans U2.1 hU3.1, hU3.2⟩; rw [vcs_def]; clear hU3 U2)
    | fail)
  have hok := hsm.ok (by omega) (by omega) (by omega) (by omega)
  have hck := hsm.ck (by omega) (by omega) (by omega) (by omega)
  have hlf := hsm.lf
  have HSM := Lib.hid hsm
  have HOK := Lib.hid hok
  have HCK := Lib.hid hck
  have HLF := Lib.hid hlf
  have HFT := Lib.hid hFit
  have hln6 : p.ln ≤ 6 := by rw [← hV0.ll]; exact hok.l6
  have hsn4 : p.sn ≤ 4 := by rw [← hV0.sl]; exact hok.s4
  have hhn3 : p.hn ≤ 3 := by rw [← hV0.hl]; exact hok.h3
  have hhn1 : 1 ≤ p.hn := by rw [← hV0.hl]; exact hok.h1
  have B1 := (Below.refl w3.heap.size w3).alloc (Nat.le_refl _) (.cells #[.int .i64 v.li, .int .i64 v.un, .int .i64 v.tr, .slice p.HA p.hn p.hc, .int .i64 v.le, .slice p.SA p.sn p.sc, .slice p.LA p.ln p.lc] 26)
  have kO := Bx.new w3 26 #[.int .i64 v.li, .int .i64 v.un, .int .i64 v.tr, .slice p.HA p.hn p.hc, .int .i64 v.le, .slice p.SA p.sn p.sc, .slice p.LA p.ln p.lc]
  have hO := hV0.call B1
  have U4 := U3.alloc (.cells #[.int .i64 v.li, .int .i64 v.un, .int .i64 v.tr, .slice p.HA p.hn p.hc, .int .i64 v.le, .slice p.SA p.sn p.sc, .slice p.LA p.ln p.lc] 26)
  have hgl := U3.2.lt
  have hw13 := U3.size
  obtain ⟨V1, hV1⟩ : ∃ V, w3.alloc (.cells #[.int .i64 v.li, .int .i64 v.un, .int .i64 v.tr, .slice p.HA p.hn p.hc, .int .i64 v.le, .slice p.SA p.sn p.sc, .slice p.LA p.ln p.lc] 26) = V := ⟨_, rfl⟩
  rw [hV1] at kO hO U4 ⊢
  obtain ⟨bO, hbO⟩ : ∃ b, w3.heap.size = b := ⟨_, rfl⟩
  rw [hbO] at kO hgl ⊢
  have hgO : bO ≠ g := by omega
  clear hV1 hbO B1 hV0 U3 hsm hok hck hlf hFit hw13
  have hBV := U4.be hb1 hg0
  have hFV := U4.2
  clear hb1 hfd U4
  obtain ⟨l0, l1, l2, l3, l4, l5, l6, lf', lz⟩ := kO.seven
  go_upto_region 4 with (first
    | (go_at_call 36; refine (best_any v p _ HFT.out HLF.out hO).mono ?_; rintro e w4 ⟨hp4, hb4⟩; rw [if_pos HCK.out] at hp4; obtain ⟨BA, bn, bc, bw, rfl, hbest⟩ := best_post hp4)
    | fail)
  clear l0 l1 l2 l3 l4 l5 l6 lf' lz
  have HBEST := Lib.hid hbest
  have k4 := kO.call hb4
  have hV4 := hO.call hb4
  have hB4 := hBV.trans (hb4.mono hBV.size)
  clear hp4 hbest hb4 kO hO hBV
  have hcnt : (allS ((p.hn : Int) - 1) p.ln).length ≤ 100000 := Nat.le_trans (allS_count _ (by omega) p.ln) (Nat.le_trans (Nat.pow_le_pow_right (by decide) hln6) (by decide))
  obtain ⟨l0, l1, l2, l3, l4, l5, l6, lf', lz⟩ := k4.seven
  go_upto_region 7 with (first
    | (go_at_call 50; refine (refStow_any v p hln6 hhn1 hhn3 p.ln 0 [] none 0 0 _ (by omega) rfl hV4 (World.ownsRow_nil _ _ _ _) (by omega) hcnt).mono ?_; rintro e W ⟨SA, sc, vs, rfl, oS, lS, hbW⟩)
    | fail)
  clear l0 l1 l2 l3 l4 l5 l6 lf' lz
  have e0 : (allS ((p.hn : Int) - 1) p.ln).map (fun l => [] ++ l) = allS ((p.hn : Int) - 1) p.ln := by simp
  rw [e0] at oS lS
  try rw [e0]
  have hLS := lS.at_ oS
  have hmem := fun (x : List Int) (hx : x ∈ allS ((p.hn : Int) - 1) p.ln) => (allS_mem (last := (p.hn : Int) - 1) (by omega) p.ln x).1 hx
  have hbm : bestM v = bst (okB v) (woB v) (allS ((p.hn : Int) - 1) p.ln) := by rw [bestM_eq, hV4.hl, hV4.ll]
  have HBEST2 := Lib.hid (show (bst (okB v) (woB v) (allS ((p.hn : Int) - 1) p.ln) = none ∧ bn = 0 ∧ bw = -1) ∨ ∃ s, bst (okB v) (woB v) (allS ((p.hn : Int) - 1) p.ln) = some s ∧ bn = p.ln ∧ bw = woB v s ∧ Sl W W.heap.size 1 BA (inr s) by
    rw [← hbm]
    rcases HBEST.out with h | ⟨s, h1, h2, h3, h4⟩
    · exact .inl h
    · refine .inr ⟨s, h1, h2, h3, own_inr (own_bel h4 hbW) ?_⟩
      have : s ∈ allS ((p.hn : Int) - 1) p.ln := by
        have hm := best_most (ok := okB v) (wo := woB v) (fun x => by unfold woB; exact wor_nonneg HOK.out x) (allS ((p.hn : Int) - 1) p.ln)
        rw [← hbm, h1] at hm
        obtain ⟨A, B, e, _⟩ := hm
        rw [e]; simp
      rw [(hmem s this).1, h2])
  obtain ⟨LL, hLL⟩ : ∃ L, allS ((p.hn : Int) - 1) p.ln = L := ⟨_, rfl⟩
  rw [hLL] at hLS hmem HBEST2 hcnt ⊢
  obtain ⟨N, hN⟩ : ∃ N, LL.length = N := ⟨_, rfl⟩
  rw [hN] at hcnt ⊢
  have HN := Lib.hid hN
  have HMEM := Lib.hid hmem
  have kW := k4.call hbW
  have hVW := hV4.call hbW
  have hBW := hB4.trans (hbW.mono hB4.size)
  clear hLL hN hmem hbm oS lS hbW k4 hV4 hB4 HBEST e0
  go_wp2_with fail
  go_loopw [9, 10, 11] (fun mv av iv wr => ∃ (k : Nat) (mo a : Int), iv = .int .i64 k ∧ k ≤ N ∧ mv = .int .i64 mo ∧ av = .int .i64 a ∧ Hid (MostAt (woB v) LL k (bst (okB v) (woB v) (LL.take k)) mo a) ∧ Below W.heap.size W wr) (fun _ _ iv _ => N - (intOf iv).toNat)
  case atStart => exact ⟨0, -1, -1, rfl, by omega, rfl, rfl, Lib.hid (.inl ⟨by simp [bst], rfl, rfl⟩), Below.refl _ _⟩
  case round =>
    obtain ⟨k, mo, a, rfl, hk, rfl, rfl, HMO, hB⟩ := hrel
    by_cases hkN : k < N
    · have hkl : k < LL.length := by rw [HN.out]; exact hkN
      obtain ⟨ad, G, gc, rfl, _, hc0, hSr⟩ := (hLS.call hB) k _ (List.getElem?_eq_getElem hkl)
      have hms := HMEM.out _ (List.getElem_mem hkl)
      have hno := fun h => HMO.out.no hkl h
      have hyes := fun h1 h2 => HMO.out.yes hkl h1 h2
      generalize LL[k] = s at *
      have hsl := hms.1
      rw [hsl] at hc0
      have HSL := Lib.hid hsl
      have HIN := Lib.hid (show InH v.hs.length s from fun h hh => by have := hms.2 h hh; rw [hVW.hl]; omega)
      have HNO := Lib.hid hno
      have HYES := Lib.hid hyes
      have kR := kW.call hB
      have hVr := hVW.call hB
      have hkw : IntKind.i64.wrap ((k : Int) + 1) = (k : Int) + 1 := IntWalk.i64_in _ (by omega)
      obtain ⟨E, hE⟩ : ∃ E, ckSt v s = E := ⟨_, rfl⟩
      have HE := Lib.hid hE
      clear hms hno hyes hkl hsl
      by_cases hz : E = 0
      · subst hz
        clear hE
        obtain ⟨TL, hTL⟩ : ∃ y, tiltP v.hs (abd v.ls s) = y := ⟨_, rfl⟩
        obtain ⟨LV, hLV⟩ : ∃ y, lvlOk v TL = y := ⟨_, rfl⟩
        obtain ⟨vd, hvd⟩ : ∃ y, verdM v.ss.length (salM v (abd v.ls s) true).length (salM v (abd v.ls s) false).length = y := ⟨_, rfl⟩
        obtain ⟨ps, hps⟩ : ∃ y, passM v (abd v.ls s) = y := ⟨_, rfl⟩
        have hvp := (verd_pass (v := v) (L := abd v.ls s) (a := (salM v (abd v.ls s) true).length))
        rw [hvd, hps] at hvp
        have hog := room_good HE.out
        rw [hTL, hLV, hps] at hog
        have HTL := Lib.hid hTL
        have HLV := Lib.hid hLV
        have HVD := Lib.hid hvd
        have HOG := Lib.hid hog
        have HVP := Lib.hid hvp
        obtain ⟨t1, t2⟩ := TL
        clear hTL hLV hvd hps hog hvp
        go_upto_region 11 with fail
        refine AnyG.startC (by kernel_rfl) ?_
        refine AnyG.takeP (i := 1) (v := ?_) rfl (by kernel_rfl) (fun _ _ _ h => h) rfl ?_ ?_
        rotate_left
        · (intro w'; go_simp; try with_reducible rfl)
        try simp only [Act.put, List.getElem_toArray, List.getElem_cons_succ, List.getElem_cons_zero, List.setIfInBounds_toArray, List.set_cons_zero, List.set_cons_succ]
        refine AnyG.takeP (i := 2) (v := ?_) rfl (by kernel_rfl) (fun _ _ _ h => h) rfl ?_ ?_
        rotate_left
        · (intro w'; go_simp; try with_reducible rfl)
        try simp only [Act.put, List.getElem_toArray, List.getElem_cons_succ, List.getElem_cons_zero, List.setIfInBounds_toArray, List.set_cons_zero, List.set_cons_succ]
        refine AnyG.takeP (i := 3) (v := ?_) rfl (by kernel_rfl) (fun _ _ _ h => h) rfl ?_ ?_
        rotate_left
        · (intro w'; go_simp; try with_reducible rfl)
        try simp only [Act.put, List.getElem_toArray, List.getElem_cons_succ, List.getElem_cons_zero, List.setIfInBounds_toArray, List.set_cons_zero, List.set_cons_succ]
        refine AnyG.enter (fun w' : World => Below wr.heap.size wr w') (fun i => true) ?_
        have hS : (fun w' : World => Below wr.heap.size wr w') (World.drew _) := (Below.refl _ _).drew
        refine AnyG.takeC (i := 0) (v := ?_) rfl (by kernel_rfl) (fun _ _ _ h => h) rfl ?_ hS ?_
        rotate_left
        · (intro w' hSw; (try dsimp only at hSw); obtain ⟨x0, x1, x2, x3, x4, x5, x6, xf, xz⟩ := (kR.call hSw).seven; go_simp; try with_reducible rfl)
        try simp only [Act.put, List.getElem_toArray, List.getElem_cons_succ, List.getElem_cons_zero, List.setIfInBounds_toArray, List.set_cons_zero, List.set_cons_succ]
        refine AnyG.takeC (i := 4) (v := ?_) rfl (by kernel_rfl) (fun _ _ _ h => h) rfl ?_ hS ?_
        rotate_left
        · (intro w' hSw; (try dsimp only at hSw); have p0 := cellC hSw hc0; go_simp; try with_reducible rfl)
        try simp only [Act.put, List.getElem_toArray, List.getElem_cons_succ, List.getElem_cons_zero, List.setIfInBounds_toArray, List.set_cons_zero, List.set_cons_succ]
        refine AnyG.one (i := 5) (by kernel_rfl) rfl rfl ?_
        go_simp
        refine (checkStowage_any v p G p.ln gc s _ HFT.out HLF.out (hVr.call hS) (hSr.call hS) HSL.out (by omega)).mono ?_
        rintro er y5 ⟨rfl, hb5⟩
        rw [HE.out]
        refine Onward.on (hS.trans (hb5.mono hS.size)) (fun hS2 => ?_)
        clear hS
        have hS := hS2
        clear hS2
        try simp only [Act.put, List.getElem_toArray, List.getElem_cons_succ, List.getElem_cons_zero, List.setIfInBounds_toArray, List.set_cons_zero, List.set_cons_succ]
        refine AnyG.one (i := 6) (by kernel_rfl) rfl rfl ?_
        go_simp
        refine Onward.on hS (fun hS2 => ?_)
        clear hS
        have hS := hS2
        clear hS2
        try simp only [Act.put, List.getElem_toArray, List.getElem_cons_succ, List.getElem_cons_zero, List.setIfInBounds_toArray, List.set_cons_zero, List.set_cons_succ]
        refine AnyG.done (by kernel_rfl) ?_ _
        go_simp
        have hC : Below wr.heap.size wr y5 := hS
        have hBk := hB.trans (hC.mono hB.size)
        replace kR := kR.call hC
        replace hVr := hVr.call hC
        replace hSr := hSr.call hC
        replace hc0 := cellC hC hc0
        obtain ⟨w2, hw2⟩ : ∃ x, y5 = x := ⟨_, rfl⟩
        rw [hw2] at hBk kR hVr hSr hc0 ⊢
        clear hS hb5 hC hw2
        go_upto_region 12 with fail
        go_cut [12, 13, 14] (fun v12 v13 v14 x => v12 = .bool LV ∧ v14 = .int .i64 0 ∧ (∃ q13 : Nat, v13 = .pointer (some ⟨q13, 0, none⟩)) ∧ Below w2.heap.size w2 x)
        case first =>
          refine AnyG.startC (by kernel_rfl) ?_
          refine AnyG.takeP (i := 1) (v := ?_) rfl (by kernel_rfl) (fun _ _ _ h => h) rfl ?_ ?_
          rotate_left
          · (intro w'; go_simp; try with_reducible rfl)
          try simp only [Act.put, List.getElem_toArray, List.getElem_cons_succ, List.getElem_cons_zero, List.setIfInBounds_toArray, List.set_cons_zero, List.set_cons_succ]
          refine AnyG.takeP (i := 2) (v := ?_) rfl (by kernel_rfl) (fun _ _ _ h => h) rfl ?_ ?_
          rotate_left
          · (intro w'; go_simp; try with_reducible rfl)
          try simp only [Act.put, List.getElem_toArray, List.getElem_cons_succ, List.getElem_cons_zero, List.setIfInBounds_toArray, List.set_cons_zero, List.set_cons_succ]
          refine AnyG.takeP (i := 3) (v := ?_) rfl (by kernel_rfl) (fun _ _ _ h => h) rfl ?_ ?_
          rotate_left
          · (intro w'; go_simp; try with_reducible rfl)
          try simp only [Act.put, List.getElem_toArray, List.getElem_cons_succ, List.getElem_cons_zero, List.setIfInBounds_toArray, List.set_cons_zero, List.set_cons_succ]
          refine AnyG.enter (fun w' : World => Below w2.heap.size w2 w') (fun i => true) ?_
          have hS : (fun w' : World => Below w2.heap.size w2 w') (w2.drew) := (Below.refl _ _).drew
          try dsimp only at hS
          obtain ⟨y0, hy0⟩ : ∃ y, w2.drew = y := ⟨_, rfl⟩
          rw [hy0] at hS ⊢
          clear hy0
          refine AnyG.takeC (i := 0) (v := ?_) rfl (by kernel_rfl) (fun _ _ _ h => h) rfl ?_ hS ?_
          rotate_left
          · (intro w' hSw; (try dsimp only at hSw); obtain ⟨x0, x1, x2, x3, x4, x5, x6, xf, xz⟩ := (kR.call hSw).seven; go_simp; try with_reducible rfl)
          try simp only [Act.put, List.getElem_toArray, List.getElem_cons_succ, List.getElem_cons_zero, List.setIfInBounds_toArray, List.set_cons_zero, List.set_cons_succ]
          refine AnyG.takeC (i := 4) (v := ?_) rfl (by kernel_rfl) (fun _ _ _ h => h) rfl ?_ hS ?_
          rotate_left
          · (intro w' hSw; (try dsimp only at hSw); have p0 := cellC hSw hc0; go_simp; try with_reducible rfl)
          try simp only [Act.put, List.getElem_toArray, List.getElem_cons_succ, List.getElem_cons_zero, List.setIfInBounds_toArray, List.set_cons_zero, List.set_cons_succ]
          refine AnyG.all (rs := [5, 10]) (by kernel_rfl) (by simp) ?_
          intro ii hii
          simp only [List.mem_cons, List.not_mem_nil, or_false] at hii
          rcases hii with rfl | rfl
          · refine ⟨_, rfl, rfl, ?_⟩
            go_simp
            refine (level_any v p G p.ln gc s _ HFT.out HLF.out (hVr.call hS) (hSr.call hS) HSL.out (by omega)).mono ?_
            rintro e5 z5 ⟨rfl, hb5⟩
            rw [if_pos HE.out, HTL.out, HLV.out]
            have hSn := hS.trans (hb5.mono hS.size)
            clear hS
            refine Onward.on hSn (fun hS => ?_)
            try dsimp only at hS
            clear hSn
            try simp only [Act.put, List.getElem_toArray, List.getElem_cons_succ, List.getElem_cons_zero, List.setIfInBounds_toArray, List.set_cons_zero, List.set_cons_succ]
            refine AnyG.takeC (i := 6) (v := ?_) rfl (by kernel_rfl) (fun _ _ _ h => h) rfl ?_ hS ?_
            rotate_left
            · (intro w' hSw; (try dsimp only at hSw); go_simp; try with_reducible rfl)
            try simp only [Act.put, List.getElem_toArray, List.getElem_cons_succ, List.getElem_cons_zero, List.setIfInBounds_toArray, List.set_cons_zero, List.set_cons_succ]
            refine AnyG.takeC (i := 7) (v := ?_) rfl (by kernel_rfl) (fun _ _ _ h => h) rfl ?_ hS ?_
            rotate_left
            · (intro w' hSw; (try dsimp only at hSw); go_simp; try with_reducible rfl)
            try simp only [Act.put, List.getElem_toArray, List.getElem_cons_succ, List.getElem_cons_zero, List.setIfInBounds_toArray, List.set_cons_zero, List.set_cons_succ]
            refine AnyG.takeC (i := 8) (v := ?_) rfl (by kernel_rfl) (fun _ _ _ h => h) rfl ?_ hS ?_
            rotate_left
            · (intro w' hSw; (try dsimp only at hSw); go_simp; try with_reducible rfl)
            try simp only [Act.put, List.getElem_toArray, List.getElem_cons_succ, List.getElem_cons_zero, List.setIfInBounds_toArray, List.set_cons_zero, List.set_cons_succ]
            refine AnyG.takeC (i := 9) (v := ?_) rfl (by kernel_rfl) (fun _ _ _ h => h) rfl ?_ hS ?_
            rotate_left
            · (intro w' hSw; (try dsimp only at hSw); go_simp; try with_reducible rfl)
            try simp only [Act.put, List.getElem_toArray, List.getElem_cons_succ, List.getElem_cons_zero, List.setIfInBounds_toArray, List.set_cons_zero, List.set_cons_succ]
            refine AnyG.one (i := 10) (by kernel_rfl) rfl rfl ?_
            go_simp
            have hq13 := hS.size
            have k13 := Bx.new z5 41 #[.int .i64 0, .int .i64 0]
            have hT := hS.alloc hS.size (.cells #[.int .i64 0, .int .i64 0] 41)
            obtain ⟨z10, hy⟩ : ∃ x, z5.alloc (.cells #[.int .i64 0, .int .i64 0] 41) = x := ⟨_, rfl⟩
            rw [hy] at k13 hT ⊢
            obtain ⟨q13, hbq⟩ : ∃ p, z5.heap.size = p := ⟨_, rfl⟩
            rw [hbq] at k13 hq13 ⊢
            clear hy hbq
            have hSn := hT
            clear hS
            refine Onward.on hSn (fun hS => ?_)
            try dsimp only at hS
            clear hSn
            try simp only [Act.put, List.getElem_toArray, List.getElem_cons_succ, List.getElem_cons_zero, List.setIfInBounds_toArray, List.set_cons_zero, List.set_cons_succ]
            refine AnyG.one (i := 11) (by kernel_rfl) rfl rfl ?_
            go_simp
            refine Onward.on hS (fun hS2 => ?_)
            clear hS2
            try simp only [Act.put, List.getElem_toArray, List.getElem_cons_succ, List.getElem_cons_zero, List.setIfInBounds_toArray, List.set_cons_zero, List.set_cons_succ]
            refine AnyG.one (i := 12) (by kernel_rfl) rfl rfl ?_
            obtain ⟨a0, a1, af, az⟩ := k13.two'
            go_simp
            have hSn := (hS.setCell (p := ⟨q13, 0, none⟩) hq13 (.int .i64 t1)).setCell (p := ⟨q13, 1, none⟩) hq13 (.int .i64 t2)
            clear hS
            refine Onward.on hSn (fun hS => ?_)
            try dsimp only at hS
            clear hSn
            try simp only [Act.put, List.getElem_toArray, List.getElem_cons_succ, List.getElem_cons_zero, List.setIfInBounds_toArray, List.set_cons_zero, List.set_cons_succ]
            refine AnyG.one (i := 13) (by kernel_rfl) rfl rfl ?_
            go_simp
            refine Onward.on hS (fun hS2 => ?_)
            clear hS2
            try simp only [Act.put, List.getElem_toArray, List.getElem_cons_succ, List.getElem_cons_zero, List.setIfInBounds_toArray, List.set_cons_zero, List.set_cons_succ]
            refine AnyG.done (by kernel_rfl) ?_ _
            go_simp
            go_wp2_with fail
            go_meet
            exact ⟨rfl, rfl, ⟨_, rfl⟩, hS⟩
          · refine ⟨_, rfl, rfl, ?_⟩
            go_simp
            have hq13 := hS.size
            have k13 := Bx.new y0 41 #[.int .i64 0, .int .i64 0]
            have hT := hS.alloc hS.size (.cells #[.int .i64 0, .int .i64 0] 41)
            obtain ⟨z10, hy⟩ : ∃ x, y0.alloc (.cells #[.int .i64 0, .int .i64 0] 41) = x := ⟨_, rfl⟩
            rw [hy] at k13 hT ⊢
            obtain ⟨q13, hbq⟩ : ∃ p, y0.heap.size = p := ⟨_, rfl⟩
            rw [hbq] at k13 hq13 ⊢
            clear hy hbq
            have hSn := hT
            clear hS
            refine Onward.on hSn (fun hS => ?_)
            try dsimp only at hS
            clear hSn
            try simp only [Act.put, List.getElem_toArray, List.getElem_cons_succ, List.getElem_cons_zero, List.setIfInBounds_toArray, List.set_cons_zero, List.set_cons_succ]
            refine AnyG.one (i := 5) (by kernel_rfl) rfl rfl ?_
            go_simp
            refine (level_any v p G p.ln gc s _ HFT.out HLF.out (hVr.call hS) (hSr.call hS) HSL.out (by omega)).mono ?_
            rintro e5 z5 ⟨rfl, hb5⟩
            rw [if_pos HE.out, HTL.out, HLV.out]
            replace k13 := k13.call hb5
            have hSn := hS.trans (hb5.mono hS.size)
            clear hS
            refine Onward.on hSn (fun hS => ?_)
            try dsimp only at hS
            clear hSn
            try simp only [Act.put, List.getElem_toArray, List.getElem_cons_succ, List.getElem_cons_zero, List.setIfInBounds_toArray, List.set_cons_zero, List.set_cons_succ]
            refine AnyG.takeC (i := 6) (v := ?_) rfl (by kernel_rfl) (fun _ _ _ h => h) rfl ?_ hS ?_
            rotate_left
            · (intro w' hSw; (try dsimp only at hSw); go_simp; try with_reducible rfl)
            try simp only [Act.put, List.getElem_toArray, List.getElem_cons_succ, List.getElem_cons_zero, List.setIfInBounds_toArray, List.set_cons_zero, List.set_cons_succ]
            refine AnyG.takeC (i := 7) (v := ?_) rfl (by kernel_rfl) (fun _ _ _ h => h) rfl ?_ hS ?_
            rotate_left
            · (intro w' hSw; (try dsimp only at hSw); go_simp; try with_reducible rfl)
            try simp only [Act.put, List.getElem_toArray, List.getElem_cons_succ, List.getElem_cons_zero, List.setIfInBounds_toArray, List.set_cons_zero, List.set_cons_succ]
            refine AnyG.takeC (i := 8) (v := ?_) rfl (by kernel_rfl) (fun _ _ _ h => h) rfl ?_ hS ?_
            rotate_left
            · (intro w' hSw; (try dsimp only at hSw); go_simp; try with_reducible rfl)
            try simp only [Act.put, List.getElem_toArray, List.getElem_cons_succ, List.getElem_cons_zero, List.setIfInBounds_toArray, List.set_cons_zero, List.set_cons_succ]
            refine AnyG.takeC (i := 9) (v := ?_) rfl (by kernel_rfl) (fun _ _ _ h => h) rfl ?_ hS ?_
            rotate_left
            · (intro w' hSw; (try dsimp only at hSw); go_simp; try with_reducible rfl)
            try simp only [Act.put, List.getElem_toArray, List.getElem_cons_succ, List.getElem_cons_zero, List.setIfInBounds_toArray, List.set_cons_zero, List.set_cons_succ]
            refine AnyG.one (i := 11) (by kernel_rfl) rfl rfl ?_
            go_simp
            refine Onward.on hS (fun hS2 => ?_)
            clear hS2
            try simp only [Act.put, List.getElem_toArray, List.getElem_cons_succ, List.getElem_cons_zero, List.setIfInBounds_toArray, List.set_cons_zero, List.set_cons_succ]
            refine AnyG.one (i := 12) (by kernel_rfl) rfl rfl ?_
            obtain ⟨a0, a1, af, az⟩ := k13.two'
            go_simp
            have hSn := (hS.setCell (p := ⟨q13, 0, none⟩) hq13 (.int .i64 t1)).setCell (p := ⟨q13, 1, none⟩) hq13 (.int .i64 t2)
            clear hS
            refine Onward.on hSn (fun hS => ?_)
            try dsimp only at hS
            clear hSn
            try simp only [Act.put, List.getElem_toArray, List.getElem_cons_succ, List.getElem_cons_zero, List.setIfInBounds_toArray, List.set_cons_zero, List.set_cons_succ]
            refine AnyG.one (i := 13) (by kernel_rfl) rfl rfl ?_
            go_simp
            refine Onward.on hS (fun hS2 => ?_)
            clear hS2
            try simp only [Act.put, List.getElem_toArray, List.getElem_cons_succ, List.getElem_cons_zero, List.setIfInBounds_toArray, List.set_cons_zero, List.set_cons_succ]
            refine AnyG.done (by kernel_rfl) ?_ _
            go_simp
            go_wp2_with fail
            go_meet
            exact ⟨rfl, rfl, ⟨_, rfl⟩, hS⟩
        case rest =>
          obtain ⟨rfl, rfl, ⟨q13, rfl⟩, hC⟩ := hcut
          replace hBk := hBk.trans (hC.mono hBk.size)
          replace kR := kR.call hC
          replace hVr := hVr.call hC
          replace hSr := hSr.call hC
          replace hc0 := cellC hC hc0
          clear hC
          obtain ⟨w3, hw3⟩ : ∃ x, wc = x := ⟨_, rfl⟩
          rw [hw3] at hBk kR hVr hSr hc0 ⊢
          clear hw3
          go_upto_region 13 with fail
          refine AnyG.startC (by kernel_rfl) ?_
          refine AnyG.takeP (i := 1) (v := ?_) rfl (by kernel_rfl) (fun _ _ _ h => h) rfl ?_ ?_
          rotate_left
          · (intro w'; go_simp; try with_reducible rfl)
          try simp only [Act.put, List.getElem_toArray, List.getElem_cons_succ, List.getElem_cons_zero, List.setIfInBounds_toArray, List.set_cons_zero, List.set_cons_succ]
          refine AnyG.takeP (i := 2) (v := ?_) rfl (by kernel_rfl) (fun _ _ _ h => h) rfl ?_ ?_
          rotate_left
          · (intro w'; go_simp; try with_reducible rfl)
          try simp only [Act.put, List.getElem_toArray, List.getElem_cons_succ, List.getElem_cons_zero, List.setIfInBounds_toArray, List.set_cons_zero, List.set_cons_succ]
          refine AnyG.takeP (i := 3) (v := ?_) rfl (by kernel_rfl) (fun _ _ _ h => h) rfl ?_ ?_
          rotate_left
          · (intro w'; go_simp; try with_reducible rfl)
          try simp only [Act.put, List.getElem_toArray, List.getElem_cons_succ, List.getElem_cons_zero, List.setIfInBounds_toArray, List.set_cons_zero, List.set_cons_succ]
          refine AnyG.enter (fun w' : World => Below w3.heap.size w3 w') (fun i => true) ?_
          have hS : (fun w' : World => Below w3.heap.size w3 w') (World.drew _) := (Below.refl _ _).drew
          refine AnyG.takeC (i := 0) (v := ?_) rfl (by kernel_rfl) (fun _ _ _ h => h) rfl ?_ hS ?_
          rotate_left
          · (intro w' hSw; (try dsimp only at hSw); obtain ⟨x0, x1, x2, x3, x4, x5, x6, xf, xz⟩ := (kR.call hSw).seven; go_simp; try with_reducible rfl)
          try simp only [Act.put, List.getElem_toArray, List.getElem_cons_succ, List.getElem_cons_zero, List.setIfInBounds_toArray, List.set_cons_zero, List.set_cons_succ]
          refine AnyG.takeC (i := 4) (v := ?_) rfl (by kernel_rfl) (fun _ _ _ h => h) rfl ?_ hS ?_
          rotate_left
          · (intro w' hSw; (try dsimp only at hSw); have p0 := cellC hSw hc0; go_simp; try with_reducible rfl)
          try simp only [Act.put, List.getElem_toArray, List.getElem_cons_succ, List.getElem_cons_zero, List.setIfInBounds_toArray, List.set_cons_zero, List.set_cons_succ]
          refine AnyG.one (i := 5) (by kernel_rfl) rfl rfl ?_
          go_simp
          refine (sail33_any v p G p.ln gc s _ HFT.out HLF.out (hVr.call hS) (hSr.call hS) HSL.out (by omega)).mono ?_
          rintro er y5 ⟨hp5, hb5⟩
          rw [if_pos HE.out, HVD.out] at hp5
          obtain ⟨X5, x5, rfl, o5⟩ := hp5
          refine Onward.on (hS.trans (hb5.mono hS.size)) (fun hS2 => ?_)
          clear hS
          have hS := hS2
          clear hS2
          try simp only [Act.put, List.getElem_toArray, List.getElem_cons_succ, List.getElem_cons_zero, List.setIfInBounds_toArray, List.set_cons_zero, List.set_cons_succ]
          refine AnyG.takeC (i := 6) (v := ?_) rfl (by kernel_rfl) (fun _ _ _ h => h) rfl ?_ hS ?_
          rotate_left
          · (intro w' hSw; (try dsimp only at hSw); go_simp; try with_reducible rfl)
          try simp only [Act.put, List.getElem_toArray, List.getElem_cons_succ, List.getElem_cons_zero, List.setIfInBounds_toArray, List.set_cons_zero, List.set_cons_succ]
          refine AnyG.takeC (i := 7) (v := ?_) rfl (by kernel_rfl) (fun _ _ _ h => h) rfl ?_ hS ?_
          rotate_left
          · (intro w' hSw; (try dsimp only at hSw); go_simp; try with_reducible rfl)
          try simp only [Act.put, List.getElem_toArray, List.getElem_cons_succ, List.getElem_cons_zero, List.setIfInBounds_toArray, List.set_cons_zero, List.set_cons_succ]
          refine AnyG.takeC (i := 8) (v := ?_) rfl (by kernel_rfl) (fun _ _ _ h => h) rfl ?_ hS ?_
          rotate_left
          · (intro w' hSw; (try dsimp only at hSw); go_simp; try with_reducible rfl)
          try simp only [Act.put, List.getElem_toArray, List.getElem_cons_succ, List.getElem_cons_zero, List.setIfInBounds_toArray, List.set_cons_zero, List.set_cons_succ]
          refine AnyG.takeC (i := 9) (v := ?_) rfl (by kernel_rfl) (fun _ _ _ h => h) rfl ?_ hS ?_
          rotate_left
          · (intro w' hSw; (try dsimp only at hSw); go_simp; try with_reducible rfl)
          try simp only [Act.put, List.getElem_toArray, List.getElem_cons_succ, List.getElem_cons_zero, List.setIfInBounds_toArray, List.set_cons_zero, List.set_cons_succ]
          refine AnyG.one (i := 10) (by kernel_rfl) rfl rfl ?_
          go_simp
          refine Onward.on hS (fun hS2 => ?_)
          clear hS
          have hS := hS2
          clear hS2
          try simp only [Act.put, List.getElem_toArray, List.getElem_cons_succ, List.getElem_cons_zero, List.setIfInBounds_toArray, List.set_cons_zero, List.set_cons_succ]
          refine AnyG.one (i := 11) (by kernel_rfl) rfl rfl ?_
          go_simp
          refine Onward.on hS (fun hS2 => ?_)
          clear hS
          have hS := hS2
          clear hS2
          try simp only [Act.put, List.getElem_toArray, List.getElem_cons_succ, List.getElem_cons_zero, List.setIfInBounds_toArray, List.set_cons_zero, List.set_cons_succ]
          refine AnyG.one (i := 12) (by kernel_rfl) rfl rfl ?_
          go_simp
          refine Onward.on hS (fun hS2 => ?_)
          clear hS
          have hS := hS2
          clear hS2
          try simp only [Act.put, List.getElem_toArray, List.getElem_cons_succ, List.getElem_cons_zero, List.setIfInBounds_toArray, List.set_cons_zero, List.set_cons_succ]
          refine AnyG.done (by kernel_rfl) ?_ _
          go_simp
          have hC : Below w3.heap.size w3 y5 := hS
          replace hBk := hBk.trans (hC.mono hBk.size)
          replace kR := kR.call hC
          replace hVr := hVr.call hC
          replace hSr := hSr.call hC
          replace hc0 := cellC hC hc0
          clear hS hb5 hC o5
          obtain ⟨Y, hY⟩ : ∃ x, y5 = x := ⟨_, rfl⟩
          rw [hY] at hBk kR hVr hSr hc0 ⊢
          clear hY
          obtain ⟨Z, hZ⟩ : ∃ Z, v.ls.zip s = Z := ⟨_, rfl⟩
          have HZ := Lib.hid hZ
          have hzl : Z.length = p.ln := by rw [← hZ]; simp [HSL.out, hVW.ll]
          have hzo : ∀ q ∈ Z, q.1.Ok := fun q hq => HOK.out.ls _ (by rw [← hZ] at hq; exact (List.of_mem_zip hq).1)
          have hwt : worZ Z = woB v s := by rw [← hZ]; exact worZ_wor (fun h hh => (HIN.out h hh).1)
          have HZL := Lib.hid hzl
          have HZO := Lib.hid hzo
          have HWT := Lib.hid hwt
          clear hZ hzl hzo hwt
          go_wp2_with fail
          go_loopw [18, 19] (fun nv jv wx => ∃ (j : Nat), jv = .int .i64 j ∧ j ≤ p.ln ∧ nv = .int .i64 (worZ (Z.take j)) ∧ Below Y.heap.size Y wx) (fun _ jv _ => p.ln - (intOf jv).toNat)
          case atStart => exact ⟨0, rfl, by omega, by simp [worZ], Below.refl _ _⟩
          case round =>
            obtain ⟨j, rfl, hj, rfl, hI⟩ := hrel
            have hcj := cellC hI hc0
            have kj := kR.call hI
            by_cases hjn : j < p.ln
            · have hjs : j < s.length := by rw [HSL.out]; exact hjn
              have hjl : j < v.ls.length := by rw [hVW.ll]; exact hjn
              have hjz : j < Z.length := by rw [HZL.out]; exact hjn
              have hze : Z[j] = (v.ls[j], s[j]) := by
                have : ∀ (Y : List (Cg × Int)) (e : v.ls.zip s = Y) (h : j < Y.length), Y[j] = (v.ls[j], s[j]) := fun Y e h => by subst e; simp
                exact this Z HZ.out hjz
              have hwk := worZ_take Z hjz
              rw [hze] at hwk
              dsimp only at hwk
              have hwb := worZ_bd (Z := Z.take j) fun q hq => HZO.out q (List.mem_of_mem_take hq)
              have hlt : (Z.take j).length ≤ 6 := by simp; omega
              obtain ⟨sd, rfl, _, s0⟩ := inr_at (hSr.call hI) hjs
              obtain ⟨la, hLA, _, _, _, c2⟩ := cg_at (hVr.call hI).ls hjl
              have hco := (HOK.out.ls _ (List.getElem_mem hjl)).wo
              generalize s[j] = h at *
              generalize v.ls[j] = cg at *
              obtain ⟨pw, hpw⟩ : ∃ x, worZ (Z.take j) = x := ⟨_, rfl⟩
              rw [hpw] at hwk hwb ⊢
              have HWK := Lib.hid hwk
              have hpb : 0 ≤ pw ∧ pw ≤ 600000 := by omega
              have wpw : IntKind.i64.wrap (pw + cg.wo) = pw + cg.wo := IntWalk.i64_in _ (by omega)
              have hjw : IntKind.i64.wrap ((j : Int) + 1) = (j : Int) + 1 := IntWalk.i64_in _ (by omega)
              obtain ⟨l0, l1, l2, l3, l4, l5, l6, lf', lz⟩ := kj.seven
              rw [hLA] at l6
              clear hwk hze hjs hjl hjz hLA hpw hwb hlt kj
              by_cases h0 : 0 ≤ h
              · go_wp2_with fail
                go_roundw
                case rel => exact ⟨j + 1, by go_num, by omega, by rw [HWK.out, if_pos h0], hI⟩
                case measure => simp [intOf]; omega
              · go_wp2_with fail
                go_roundw
                case rel => exact ⟨j + 1, by go_num, by omega, by rw [HWK.out, if_neg h0, Int.add_zero], hI⟩
                case measure => simp [intOf]; omega
            · obtain rfl : j = p.ln := by omega
              have hzt : worZ (Z.take p.ln) = woB v s := by rw [List.take_of_length_le (by rw [HZL.out]; exact Nat.le_refl _)]; exact HWT.out
              obtain ⟨wo, hwo⟩ : ∃ x, woB v s = x := ⟨_, rfl⟩
              rw [hwo] at hzt
              rw [hzt]
              have HWO := Lib.hid hwo
              have hBE := hBk.trans (hI.mono hBk.size)
              clear hzt hwo kj
              have hvp := HVP.out
              have hog := HOG.out
              by_cases hg : LV = true ∧ vd = 1 ∧ mo < wo
              · obtain ⟨rfl, rfl, hmw⟩ := hg
                have HYN := Lib.hid (show MostAt (woB v) LL (k + 1) (bst (okB v) (woB v) (LL.take (k + 1))) wo k by rw [← HWO.out]; exact HYES.out (by rw [hog, hvp.1 rfl]; rfl) (by rw [HWO.out]; exact hmw))
                clear hvp hog
                go_wp2_with fail
                go_roundw
                case rel => exact ⟨k + 1, wo, k, by go_num, by omega, rfl, rfl, HYN, hBE⟩
                case measure => simp [intOf]; omega
              · have HNN := Lib.hid (HNO.out fun h => hg (by
                  rw [hog, HWO.out] at h
                  obtain ⟨h1, h2⟩ := h
                  rw [Bool.and_eq_true] at h1
                  exact ⟨h1.1, hvp.2 h1.2, h2⟩))
                clear hvp hog
                cases LV
                · clear hg
                  go_wp2_with fail
                  go_roundw
                  case rel => exact ⟨k + 1, mo, a, by go_num, by omega, rfl, rfl, HNN, hBE⟩
                  case measure => simp [intOf]; omega
                · by_cases hv1 : vd = 1
                  · subst hv1
                    have hmf : (mo < wo) = False := eq_false fun h => hg ⟨rfl, rfl, h⟩
                    clear hg
                    go_wp2_with fail
                    go_roundw
                    case rel => exact ⟨k + 1, mo, a, by go_num, by omega, rfl, rfl, HNN, hBE⟩
                    case measure => simp [intOf]; omega
                  · have hvf : (vd == 1) = false := by simpa using hv1
                    clear hg hv1
                    go_wp2_with fail
                    go_roundw
                    case rel => exact ⟨k + 1, mo, a, by go_num, by omega, rfl, rfl, HNN, hBE⟩
                    case measure => simp [intOf]; omega
      · have hze : (E != 0) = true := by simpa using hz
        clear hE
        go_wp2_with fail
        refine AnyG.startC (by kernel_rfl) ?_
        refine AnyG.takeP (i := 1) (v := ?_) rfl (by kernel_rfl) (fun _ _ _ h => h) rfl ?_ ?_
        rotate_left
        · (intro w'; go_simp; try with_reducible rfl)
        try simp only [Act.put, List.getElem_toArray, List.getElem_cons_succ, List.getElem_cons_zero, List.setIfInBounds_toArray, List.set_cons_zero, List.set_cons_succ]
        refine AnyG.takeP (i := 2) (v := ?_) rfl (by kernel_rfl) (fun _ _ _ h => h) rfl ?_ ?_
        rotate_left
        · (intro w'; go_simp; try with_reducible rfl)
        try simp only [Act.put, List.getElem_toArray, List.getElem_cons_succ, List.getElem_cons_zero, List.setIfInBounds_toArray, List.set_cons_zero, List.set_cons_succ]
        refine AnyG.takeP (i := 3) (v := ?_) rfl (by kernel_rfl) (fun _ _ _ h => h) rfl ?_ ?_
        rotate_left
        · (intro w'; go_simp; try with_reducible rfl)
        try simp only [Act.put, List.getElem_toArray, List.getElem_cons_succ, List.getElem_cons_zero, List.setIfInBounds_toArray, List.set_cons_zero, List.set_cons_succ]
        refine AnyG.enter (fun w' : World => Below wr.heap.size wr w') (fun i => true) ?_
        have hS : (fun w' : World => Below wr.heap.size wr w') (World.drew _) := (Below.refl _ _).drew
        refine AnyG.takeC (i := 0) (v := ?_) rfl (by kernel_rfl) (fun _ _ _ h => h) rfl ?_ hS ?_
        rotate_left
        · (intro w' hSw; (try dsimp only at hSw); obtain ⟨x0, x1, x2, x3, x4, x5, x6, xf, xz⟩ := (kR.call hSw).seven; go_simp; try with_reducible rfl)
        try simp only [Act.put, List.getElem_toArray, List.getElem_cons_succ, List.getElem_cons_zero, List.setIfInBounds_toArray, List.set_cons_zero, List.set_cons_succ]
        refine AnyG.takeC (i := 4) (v := ?_) rfl (by kernel_rfl) (fun _ _ _ h => h) rfl ?_ hS ?_
        rotate_left
        · (intro w' hSw; (try dsimp only at hSw); have p0 := cellC hSw hc0; go_simp; try with_reducible rfl)
        try simp only [Act.put, List.getElem_toArray, List.getElem_cons_succ, List.getElem_cons_zero, List.setIfInBounds_toArray, List.set_cons_zero, List.set_cons_succ]
        refine AnyG.one (i := 5) (by kernel_rfl) rfl rfl ?_
        go_simp
        refine (checkStowage_any v p G p.ln gc s _ HFT.out HLF.out (hVr.call hS) (hSr.call hS) HSL.out (by omega)).mono ?_
        rintro er y5 ⟨rfl, hb5⟩
        rw [HE.out]
        refine Onward.on (hS.trans (hb5.mono hS.size)) (fun hS2 => ?_)
        clear hS
        have hS := hS2
        clear hS2
        try simp only [Act.put, List.getElem_toArray, List.getElem_cons_succ, List.getElem_cons_zero, List.setIfInBounds_toArray, List.set_cons_zero, List.set_cons_succ]
        refine AnyG.one (i := 6) (by kernel_rfl) rfl rfl ?_
        go_simp
        refine Onward.on hS (fun hS2 => ?_)
        clear hS
        have hS := hS2
        clear hS2
        try simp only [Act.put, List.getElem_toArray, List.getElem_cons_succ, List.getElem_cons_zero, List.setIfInBounds_toArray, List.set_cons_zero, List.set_cons_succ]
        refine AnyG.done (by kernel_rfl) ?_ _
        have hC : Below wr.heap.size wr y5 := hS
        clear hS hb5
        go_simp
        go_wp2_with fail
        go_roundw
        case rel => exact ⟨k + 1, mo, a, by go_num, by omega, rfl, rfl, Lib.hid (HNO.out fun h => by rw [room_bad HCK.out (by rw [HSL.out, hVW.ll]) HIN.out (by rw [HE.out]; exact hz)] at h; exact absurd h.1 (by simp)), hB.trans (hC.mono hB.size)⟩
        case measure => simp [intOf]; omega
    · obtain rfl : k = N := by omega
      have htk : LL.take k = LL := List.take_of_length_le (by rw [HN.out]; exact Nat.le_refl _)
      have hmo := HMO.out
      rw [htk] at hmo
      have kR := kW.call hB
      obtain ⟨l0, l1, l2, l3, l4, l5, l6, lf', lz⟩ := kR.seven
      have hBE := hBW.trans (hB.mono hBW.size)
      rcases HBEST2.out with ⟨h1, rfl, rfl⟩ | ⟨m, h1, rfl, rfl, hSm⟩
      · rcases hmo with ⟨_, rfl, rfl⟩ | ⟨m, j, h2, _⟩
        · clear h1 htk kR
          go_wp2_with (first | (go_at_call 15; refine (awake_any _).mono ?_; rintro e z3 ⟨rfl, hq3⟩) | fail)
          go_ret
          exact ⟨rfl, hBE.trans (hq3.mono hBE.size)⟩
        · rw [h1] at h2; cases h2
      · rcases hmo with ⟨h2, _⟩ | ⟨m', j, h2, rfl, rfl, hjk, hj⟩
        · rw [h1] at h2; cases h2
        · rw [h1, Option.some.injEq] at h2
          subst h2
          obtain ⟨ad, G, gc, rfl, _, hc0, hSr⟩ := (hLS.call hB) j _ hj
          have hml : m.length = p.ln := (HMEM.out m (List.mem_of_getElem? hj)).1
          rw [hml] at hc0
          have hSB := hSm.call hB
          have HML := Lib.hid hml
          have hj0 : ¬ ((j : Int) < 0) := by omega
          obtain ⟨wo, hwo⟩ : ∃ x, woB v m = x := ⟨_, rfl⟩
          rw [hwo]
          clear h1 htk kR hml hj hwo
          go_wp2_with (first
            | (go_at_call 32; refine (equalInts_any BA p.ln bc G p.ln gc m m _ (by omega) (by omega) HML.out HML.out hSB hSr).mono ?_; rintro e z2 ⟨rfl, hq2⟩; rw [show decide (m = m) = true by simp])
            | (go_at_call 15; refine (awake_any _).mono ?_; rintro e z3 ⟨rfl, hq3⟩)
            | fail)
          have hBE2 := hBE.trans (hq2.mono hBE.size)
          go_ret
          exact ⟨rfl, hBE2.trans (hq3.mono hBE2.size)⟩
end Go.Proofs.Ytfcpjkofbejleaa
