/- The reference: Worth 81, Good 82, Best 37. -/
import Derived.Test.YtfcpjkofbejleaaRsc
import Derived.Test.YtfcpjkofbejleaaRcaM
set_option linter.unusedSimpArgs false
set_option linter.unusedVariables false
namespace Go.Proofs.Ytfcpjkofbejleaa
open Go Go.RowKit
set_option maxRecDepth 100000 in
set_option maxHeartbeats 4000000 in
theorem refWorth_any (v : Vg) (p : Vp) (A : Option Addr) (sc : Nat) (s : List Int) (w : World) (ho : v.Ok) (hV0 : VoyAt w w.heap.size v p) (hS0 : Sl w w.heap.size 1 A (inr s)) (hl : s.length = p.ln) (hm : ∀ h ∈ s, -1 ≤ h) :
    Calls Try.prog 81 #[.agg (vcs v p), .slice A p.ln sc] w fun e w' => e = .returned (.int .i64 (woB v s)) ∧ Below w.heap.size w w' := by
  have k0 := Bx.new w 26 (vcs v p)
  have B0 := (Below.refl w.heap.size w).alloc (Nat.le_refl _) (.cells (vcs v p) 26)
  rw [vcs_def] at k0 B0 ⊢
  obtain ⟨V, hVV⟩ : ∃ V, w.alloc (.cells #[.int .i64 v.li, .int .i64 v.un, .int .i64 v.tr, .slice p.HA p.hn p.hc, .int .i64 v.le, .slice p.SA p.sn p.sc, .slice p.LA p.ln p.lc] 26) = V := ⟨_, rfl⟩
  rw [hVV] at k0 B0
  have HVV := Lib.hid hVV
  clear hVV
  have hV := hV0.call B0
  have hS := (hS0.below B0).more B0.size
  have hln6 : p.ln ≤ 6 := by rw [← hV0.ll]; exact ho.l6
  have HSL := Lib.hid hl
  have HOK := Lib.hid ho
  obtain ⟨Z, hZ⟩ : ∃ Z, v.ls.zip s = Z := ⟨_, rfl⟩
  have HZ := Lib.hid hZ
  have hzl : Z.length = p.ln := by rw [← hZ]; simp [hl, hV0.ll]
  have hzo : ∀ q ∈ Z, q.1.Ok := fun q hq => ho.ls _ (by rw [← hZ] at hq; exact (List.of_mem_zip hq).1)
  have hwt : worZ Z = woB v s := by rw [← hZ]; exact worZ_wor hm
  have HZL := Lib.hid hzl
  have HZO := Lib.hid hzo
  have HWT := Lib.hid hwt
  clear hZ hzl hzo hwt hl ho hV0 hS0 hm
  go_enter Try.func81, Try.ntmps81
  go_upto_region 1 with fail
  rw [HVV.out]
  go_wp2_with fail
  go_loopw [5, 6] (fun nv jv wx => ∃ (j : Nat), jv = .int .i64 j ∧ j ≤ p.ln ∧ nv = .int .i64 (worZ (Z.take j)) ∧ wx = V) (fun _ jv _ => p.ln - (intOf jv).toNat)
  case atStart => exact ⟨0, rfl, by omega, by simp [worZ], rfl⟩
  case round =>
    obtain ⟨j, rfl, hj, rfl, rfl⟩ := hrel
    by_cases hjn : j < p.ln
    · have hjs : j < s.length := by rw [HSL.out]; exact hjn
      have hjl : j < v.ls.length := by rw [hV.ll]; exact hjn
      have hjz : j < Z.length := by rw [HZL.out]; exact hjn
      have hze : Z[j] = (v.ls[j], s[j]) := by
        have : ∀ (Y : List (Cg × Int)) (e : v.ls.zip s = Y) (h : j < Y.length), Y[j] = (v.ls[j], s[j]) := fun Y e h => by subst e; simp
        exact this Z HZ.out hjz
      have hwk := worZ_take Z hjz
      rw [hze] at hwk
      dsimp only at hwk
      have hwb := worZ_bd (Z := Z.take j) fun q hq => HZO.out q (List.mem_of_mem_take hq)
      have hlt : (Z.take j).length ≤ 6 := by simp; omega
      obtain ⟨sd, rfl, _, s0⟩ := inr_at hS hjs
      obtain ⟨la, hLA, _, _, _, c2⟩ := cg_at hV.ls hjl
      have hco := (HOK.out.ls _ (List.getElem_mem hjl)).wo
      generalize s[j] = h at *
      generalize v.ls[j] = cg at *
      obtain ⟨pw, hpw⟩ : ∃ x, worZ (Z.take j) = x := ⟨_, rfl⟩
      rw [hpw] at hwk hwb ⊢
      have HWK := Lib.hid hwk
      have hpb : 0 ≤ pw ∧ pw ≤ 600000 := by omega
      have wpw : IntKind.i64.wrap (pw + cg.wo) = pw + cg.wo := IntWalk.i64_in _ (by omega)
      have hjw : IntKind.i64.wrap ((j : Int) + 1) = (j : Int) + 1 := IntWalk.i64_in _ (by omega)
      obtain ⟨l0, l1, l2, l3, l4, l5, l6, lf', lz⟩ := k0.seven
      rw [hLA] at l6
      clear hwk hze hjs hjl hjz hLA hpw hwb hlt
      by_cases h0 : 0 ≤ h
      · go_wp2_with fail
        go_roundw
        case rel => exact ⟨j + 1, by go_num, by omega, by rw [HWK.out, if_pos h0], by trivial⟩
        case measure => simp [intOf]; omega
      · go_wp2_with fail
        go_roundw
        case rel => exact ⟨j + 1, by go_num, by omega, by rw [HWK.out, if_neg h0, Int.add_zero], by trivial⟩
        case measure => simp [intOf]; omega
    · obtain rfl : j = p.ln := by omega
      have hzt : worZ (Z.take p.ln) = woB v s := by rw [List.take_of_length_le (by rw [HZL.out]; exact Nat.le_refl _)]; exact HWT.out
      rw [hzt]
      clear hzt
      go_wp2_with fail
      go_ret
      exact ⟨rfl, B0⟩
set_option maxRecDepth 100000 in
set_option maxHeartbeats 4000000 in
theorem refGood_any (v : Vg) (p : Vp) (A : Option Addr) (sc : Nat) (s : List Int) (w : World) (hck : ckV v = 0) (hV : VoyAt w w.heap.size v p) (hS0 : Sl w w.heap.size 1 A (inr s)) (hl : s.length = p.ln) (hin : InH v.hs.length s) :
    Calls Try.prog 82 #[.agg (vcs v p), .slice A p.ln sc] w fun e w' => e = .returned (.bool (okB v s)) ∧ Below w.heap.size w w' := by
  have ho := ckV_ok hck
  have hln6 : p.ln ≤ 6 := by rw [← hV.ll]; exact ho.l6
  have hlv : s.length = v.ls.length := by rw [hl, hV.ll]
  have hst : ckSt v s = ckSo v s := by unfold ckSt ckSo; rw [if_neg (by rw [hck]; simp)]
  have k0 := Bx.new w 26 (vcs v p)
  have B0 := (Below.refl w.heap.size w).alloc (Nat.le_refl _) (.cells (vcs v p) 26)
  rw [vcs_def] at k0 B0 ⊢
  obtain ⟨V, hVV⟩ : ∃ V, w.alloc (.cells #[.int .i64 v.li, .int .i64 v.un, .int .i64 v.tr, .slice p.HA p.hn p.hc, .int .i64 v.le, .slice p.SA p.sn p.sc, .slice p.LA p.ln p.lc] 26) = V := ⟨_, rfl⟩
  rw [hVV] at k0 B0
  have HVV := Lib.hid hVV
  clear hVV
  have HSL := Lib.hid hl
  obtain ⟨E, hE⟩ : ∃ E, ckSo v s = E := ⟨_, rfl⟩
  have HE := Lib.hid hE
  rw [hE] at hst
  obtain ⟨l0, l1, l2, l3, l4, l5, l6, lf', lz⟩ := k0.seven
  by_cases hz : E = 0
  case neg =>
    have hz1 : (E != 0) = true := by simpa using hz
    have HOB := Lib.hid (room_bad hck hlv hin (by rw [hst]; exact hz))
    clear hE hl hst
    go_enter Try.func82, Try.ntmps82
    go_wp2_with (first
      | (go_at_call 70; rw [HVV.out]; refine (refStowed_any v p A p.ln sc s V ho (hV.call B0) ((hS0.below B0).more B0.size) HSL.out (by omega)).mono ?_; rintro e w_1 ⟨rfl, hb_1⟩; rw [HE.out]; have B_1 := B0.trans (hb_1.mono B0.size))
      | fail)
    go_ret
    exact ⟨by rw [HOB.out]; rfl, B_1⟩
  subst hz
  have hok := ckSt_ok hst
  have hzz := zer_ok hck
  have hog := room_good hst
  have hvp := (verd_pass (v := v) (L := abd v.ls s) (a := (salM v (abd v.ls s) true).length))
  obtain ⟨TL, hTL⟩ : ∃ y, tiltP v.hs (abd v.ls s) = y := ⟨_, rfl⟩
  obtain ⟨LV, hLV⟩ : ∃ y, lvlOk v TL = y := ⟨_, rfl⟩
  obtain ⟨vd, hvd⟩ : ∃ y, verdM v.ss.length (salM v (abd v.ls s) true).length (salM v (abd v.ls s) false).length = y := ⟨_, rfl⟩
  obtain ⟨ps, hps⟩ : ∃ y, passM v (abd v.ls s) = y := ⟨_, rfl⟩
  rw [hvd, hps] at hvp
  rw [hTL, hLV, hps] at hog
  have HTL := Lib.hid hTL
  have HLV := Lib.hid hLV
  have HVD := Lib.hid hvd
  have HOG := Lib.hid hog
  have hpv : ps = (vd == 1) := by
    cases ps with
    | true => rw [hvp.2 rfl]; rfl
    | false =>
      cases hb : (vd == 1) with
      | false => rfl
      | true => have := hvp.1 (by simpa using hb); cases this
  have HPV := Lib.hid hpv
  obtain ⟨t1, t2⟩ := TL
  obtain ⟨OV, hov⟩ : ∃ x, overM v (abd v.ls s) = x := ⟨_, rfl⟩
  have HOV := Lib.hid hov
  clear hTL hLV hvd hps hog hvp hE hl hst hpv hov
  go_enter Try.func82, Try.ntmps82
  go_upto_region 3 with (first
    | (go_at_call 70; rw [HVV.out]; refine (refStowed_any v p A p.ln sc s V ho (hV.call B0) ((hS0.below B0).more B0.size) HSL.out (by omega)).mono ?_; rintro e w_1 ⟨rfl, hb_1⟩; rw [HE.out]; have B_1 := B0.trans (hb_1.mono B0.size); have k_1 := k0.call hb_1)
    | fail)
  clear l0 l1 l2 l3 l4 l5 l6 lf' lz
  obtain ⟨l0, l1, l2, l3, l4, l5, l6, lf', lz⟩ := k_1.seven
  go_upto_region 4 with (first
    | (go_at_call 59; refine (refLevel59_any v p A p.ln sc s _ hok (hV.call B_1) ((hS0.below B_1).more B_1.size) HSL.out).mono ?_; rintro e w_2 ⟨rfl, hb_2⟩; rw [HTL.out, HLV.out]; have B_2 := B_1.trans (hb_2.mono B_1.size); have k_2 := k_1.call hb_2)
    | fail)
  clear l0 l1 l2 l3 l4 l5 l6 lf' lz
  have k_3 := k_2.alloc (.cells #[.int .i64 t1, .int .i64 t2] 41)
  have B_3 := B_2.alloc B_2.size (.cells #[.int .i64 t1, .int .i64 t2] 41)
  obtain ⟨l0, l1, l2, l3, l4, l5, l6, lf', lz⟩ := k_3.seven
  go_upto_region 5 with (first
    | (go_at_call 74; refine (refSail74_any v p A p.ln sc s _ hok hzz (hV.call B_3) ((hS0.below B_3).more B_3.size) HSL.out).mono ?_; rintro e w_4 ⟨⟨X, x, rfl, O1⟩, hb_4⟩; rw [HVD.out]; have B_4 := B_3.trans (hb_4.mono B_3.size))
    | fail)
  cases LV
  · go_wp2_with fail
    go_ret
    exact ⟨by rw [HOG.out]; rfl, B_4⟩
  · go_wp2_with fail
    go_ret
    exact ⟨by rw [HOG.out, HPV.out]; rfl, B_4⟩
theorem hid_mono9 {P : Prop} {r : Option (List Int)} {n m : Nat} {b : Int} {f : List Int → Int} {A : Option Addr} {U X : World} (h : Hid (P ∨ ∃ s, r = some s ∧ s.length = n ∧ n = m ∧ b = f s ∧ Sl U U.heap.size 1 A (inr s))) (hC : Below U.heap.size U X) : Hid (P ∨ ∃ s, r = some s ∧ s.length = n ∧ n = m ∧ b = f s ∧ Sl X X.heap.size 1 A (inr s)) := by
  rcases h.out with h | ⟨s', h1, h2, h3, h4, h5⟩
  · exact Lib.hid (.inl h)
  · exact Lib.hid (.inr ⟨s', h1, h2, h3, h4, (h5.below hC).more hC.size⟩)
set_option maxRecDepth 100000 in
set_option maxHeartbeats 8000000 in
theorem refBest_any (v : Vg) (p : Vp) (w : World) (hF : p.Fit) (hLF : LvFit v) (hV : VoyAt w w.heap.size v p) :
    Calls Try.prog 37 #[.agg (vcs v p)] w fun e w' => (if ckV v = 0 then (∃ (A : Option Addr) (n c : Nat) (b : Int), e = .returned (.tuple #[.slice A n c, .int .i64 b, .int .i64 0]) ∧ Hid ((bestM v = none ∧ n = 0 ∧ b = -1) ∨ ∃ s, bestM v = some s ∧ s.length = n ∧ n = p.ln ∧ b = woB v s ∧ Sl w' w'.heap.size 1 A (inr s))) else e = .returned (.tuple #[.slice none 0 0, .int .i64 0, .int .i64 (ckV v)])) ∧ Below w.heap.size w w' := by
  have k0 := Bx.new w 26 (vcs v p)
  have B0 := (Below.refl w.heap.size w).alloc (Nat.le_refl _) (.cells (vcs v p) 26)
  rw [vcs_def] at k0 B0 ⊢
  obtain ⟨V, hVV⟩ : ∃ V, w.alloc (.cells #[.int .i64 v.li, .int .i64 v.un, .int .i64 v.tr, .slice p.HA p.hn p.hc, .int .i64 v.le, .slice p.SA p.sn p.sc, .slice p.LA p.ln p.lc] 26) = V := ⟨_, rfl⟩
  rw [hVV] at k0 B0
  have HVV := Lib.hid hVV
  clear hVV
  obtain ⟨E, hE⟩ : ∃ E, ckV v = E := ⟨_, rfl⟩
  have HE := Lib.hid hE
  rw [hE]
  obtain ⟨l0, l1, l2, l3, l4, l5, l6, lf', lz⟩ := k0.seven
  by_cases hz : E = 0
  case neg =>
    have hz1 : (E != 0) = true := by simpa using hz
    simp only [if_neg hz]
    clear hE
    go_enter Try.func37, Try.ntmps37
    go_wp2_with (first
      | (go_at_call 28; rw [HVV.out]; refine (refCheck_any v p V hF hLF (hV.call B0)).mono ?_; rintro e w_1 ⟨rfl, hb_1⟩; rw [HE.out]; have B_1 := B0.trans (hb_1.mono B0.size))
      | fail)
    exact bodyPost_ret (v := .tuple #[.slice none 0 0, .int .i64 0, .int .i64 E]) (by simp [results, Try.results37, go_sem]) rfl ⟨rfl, B_1⟩
  subst hz
  have ho := ckV_ok hE
  have hln6 : p.ln ≤ 6 := by rw [← hV.ll]; exact ho.l6
  have hhn3 : p.hn ≤ 3 := by rw [← hV.hl]; exact ho.h3
  have hhn1 : 1 ≤ p.hn := by rw [← hV.hl]; exact ho.h1
  simp only [if_pos (rfl : (0 : Int) = 0)]
  have HCK := Lib.hid hE
  have HOK := Lib.hid ho
  have hcnt : (allS ((p.hn : Int) - 1) p.ln).length ≤ 100000 := Nat.le_trans (allS_count _ (by omega) p.ln) (Nat.le_trans (Nat.pow_le_pow_right (by decide) hln6) (by decide))
  have hbm : bestM v = bst (okB v) (woB v) (allS ((p.hn : Int) - 1) p.ln) := by rw [bestM_eq, hV.hl, hV.ll]
  rw [hbm]
  clear hE ho
  go_enter Try.func37, Try.ntmps37
  go_upto_region 6 with (first
    | (go_at_call 28; rw [HVV.out]; refine (refCheck_any v p V hF hLF (hV.call B0)).mono ?_; rintro e w_1 ⟨rfl, hb_1⟩; rw [HCK.out]; have B_1 := B0.trans (hb_1.mono B0.size); have k_1 := k0.call hb_1)
    | fail)
  clear l0 l1 l2 l3 l4 l5 l6 lf' lz
  have hV1 := hV.call B_1
  obtain ⟨l0, l1, l2, l3, l4, l5, l6, lf', lz⟩ := k_1.seven
  go_upto_region 7 with (first
    | (go_at_call 50; refine (refStow_any v p hln6 hhn1 hhn3 p.ln 0 [] none 0 0 _ (by omega) rfl hV1 (World.ownsRow_nil _ _ _ _) (by omega) hcnt).mono ?_; rintro e W ⟨SA, sc, vs, rfl, oS, lS, hbW⟩)
    | fail)
  clear l0 l1 l2 l3 l4 l5 l6 lf' lz
  have e0 : (allS ((p.hn : Int) - 1) p.ln).map (fun l => [] ++ l) = allS ((p.hn : Int) - 1) p.ln := by simp
  rw [e0] at oS lS
  try rw [e0]
  have hLS := lS.at_ oS
  have hmem := fun (x : List Int) (hx : x ∈ allS ((p.hn : Int) - 1) p.ln) => (allS_mem (last := (p.hn : Int) - 1) (by omega) p.ln x).1 hx
  obtain ⟨LL, hLL⟩ : ∃ L, allS ((p.hn : Int) - 1) p.ln = L := ⟨_, rfl⟩
  rw [hLL] at hLS hmem hcnt ⊢
  obtain ⟨N, hN⟩ : ∃ N, LL.length = N := ⟨_, rfl⟩
  rw [hN] at hcnt ⊢
  have HN := Lib.hid hN
  have HLLe := Lib.hid hLL
  have HMEM := Lib.hid hmem
  have kW := k_1.call hbW
  have hVW := hV1.call hbW
  have hBW := B_1.trans (hbW.mono B_1.size)
  clear hLL hN hmem hbm oS lS hbW k_1 hV1 B_1 e0 k0 hb_1
  go_wp2_with fail
  go_loopw [6, 7, 9, 10] (fun bv mv iv _ wr => ∃ (k : Nat) (A : Option Addr) (n c : Nat) (mo : Int), iv = .int .i64 k ∧ k ≤ N ∧ bv = .slice A n c ∧ mv = .int .i64 mo ∧ Hid ((bst (okB v) (woB v) (LL.take k) = none ∧ n = 0 ∧ mo = -1) ∨ ∃ s, bst (okB v) (woB v) (LL.take k) = some s ∧ s.length = n ∧ n = p.ln ∧ mo = woB v s ∧ Sl wr wr.heap.size 1 A (inr s)) ∧ Hid (∃ a, MostAt (woB v) LL k (bst (okB v) (woB v) (LL.take k)) mo a) ∧ Below W.heap.size W wr) (fun _ _ iv _ _ => N - (intOf iv).toNat)
  case atStart => exact ⟨0, none, 0, 0, -1, rfl, by omega, rfl, rfl, Lib.hid (.inl ⟨by simp [bst], rfl, rfl⟩), Lib.hid ⟨-1, .inl ⟨by simp [bst], rfl, rfl⟩⟩, Below.refl _ _⟩
  case round =>
    obtain ⟨k, A, n, c, mo, rfl, hk, rfl, rfl, HBS, HMO, hB⟩ := hrel
    by_cases hkN : k < N
    · have hkl : k < LL.length := by rw [HN.out]; exact hkN
      obtain ⟨ad, G, gc, rfl, _, hc0, hSr⟩ := (hLS.call hB) k _ (List.getElem?_eq_getElem hkl)
      have hms := HMEM.out _ (List.getElem_mem hkl)
      obtain ⟨a, hmo⟩ := HMO.out
      have hno := fun h => hmo.no hkl h
      have hyes := fun h1 h2 => hmo.yes hkl h1 h2
      have htk := (show LL.take (k + 1) = LL.take k ++ [LL[k]] from List.take_succ_eq_append_getElem hkl)
      have hpk := best_snoc (okB v) (woB v) (LL.take k) LL[k]
      rw [← htk, hmo.pick] at hpk
      generalize LL[k] = s at *
      have hsl := hms.1
      rw [hsl] at hc0
      have HSL := Lib.hid hsl
      have HIN := Lib.hid (show InH v.hs.length s from fun h hh => by have := hms.2 h hh; rw [hVW.hl]; omega)
      have HNO := Lib.hid hno
      have HYES := Lib.hid hyes
      have HPK := Lib.hid hpk
      have kR := kW.call hB
      have hVr := hVW.call hB
      have hkw : IntKind.i64.wrap ((k : Int) + 1) = (k : Int) + 1 := IntWalk.i64_in _ (by omega)
      obtain ⟨wo, hwo⟩ : ∃ x, woB v s = x := ⟨_, rfl⟩
      obtain ⟨gd, hgd⟩ : ∃ x, okB v s = x := ⟨_, rfl⟩
      have HWO := Lib.hid hwo
      have HGD := Lib.hid hgd
      clear hms hno hyes hkl hsl hmo htk hpk hwo hgd
      go_upto_region 10 with fail
      refine AnyG.startC (by kernel_rfl) ?_
      refine AnyG.takeP (i := 1) (v := ?_) rfl (by kernel_rfl) (fun _ _ _ h => h) rfl ?_ ?_
      rotate_left
      · (intro w'; go_simp; try with_reducible rfl)
      try simp only [Act.put, List.getElem_toArray, List.getElem_cons_succ, List.getElem_cons_zero, List.setIfInBounds_toArray, List.set_cons_zero, List.set_cons_succ]
      refine AnyG.takeP (i := 2) (v := ?_) rfl (by kernel_rfl) (fun _ _ _ h => h) rfl ?_ ?_
      rotate_left
      · (intro w'; go_simp; try with_reducible rfl)
      try simp only [Act.put, List.getElem_toArray, List.getElem_cons_succ, List.getElem_cons_zero, List.setIfInBounds_toArray, List.set_cons_zero, List.set_cons_succ]
      refine AnyG.takeP (i := 3) (v := ?_) rfl (by kernel_rfl) (fun _ _ _ h => h) rfl ?_ ?_
      rotate_left
      · (intro w'; go_simp; try with_reducible rfl)
      try simp only [Act.put, List.getElem_toArray, List.getElem_cons_succ, List.getElem_cons_zero, List.setIfInBounds_toArray, List.set_cons_zero, List.set_cons_succ]
      refine AnyG.enter (fun w' : World => Below wr.heap.size wr w') (fun i => i != 6) ?_
      have hS : (fun w' : World => Below wr.heap.size wr w') (World.drew _) := (Below.refl _ _).drew
      refine AnyG.takeC (i := 0) (v := ?_) rfl (by kernel_rfl) (fun _ _ _ h => h) rfl ?_ hS ?_
      rotate_left
      · (intro w' hSw; (try dsimp only at hSw); obtain ⟨x0, x1, x2, x3, x4, x5, x6, xf, xz⟩ := (kR.call hSw).seven; go_simp; try with_reducible rfl)
      try simp only [Act.put, List.getElem_toArray, List.getElem_cons_succ, List.getElem_cons_zero, List.setIfInBounds_toArray, List.set_cons_zero, List.set_cons_succ]
      refine AnyG.takeC (i := 4) (v := ?_) rfl (by kernel_rfl) (fun _ _ _ h => h) rfl ?_ hS ?_
      rotate_left
      · (intro w' hSw; (try dsimp only at hSw); have p0 := cellC hSw hc0; go_simp; try with_reducible rfl)
      try simp only [Act.put, List.getElem_toArray, List.getElem_cons_succ, List.getElem_cons_zero, List.setIfInBounds_toArray, List.set_cons_zero, List.set_cons_succ]
      refine AnyG.one (i := 5) (by kernel_rfl) rfl rfl ?_
      go_simp
      refine (refWorth_any v p G gc s _ HOK.out (hVr.call hS) ((hSr.below hS).more hS.size) HSL.out (fun h hh => (HIN.out h hh).1)).mono ?_
      rintro e5 y5 ⟨rfl, hb5⟩
      rw [HWO.out]
      refine Onward.on (hS.trans (hb5.mono hS.size)) (fun hS2 => ?_)
      clear hS
      have hS := hS2
      clear hS2
      try simp only [Act.put, List.getElem_toArray, List.getElem_cons_succ, List.getElem_cons_zero, List.setIfInBounds_toArray, List.set_cons_zero, List.set_cons_succ]
      refine AnyG.one (i := 6) (by kernel_rfl) rfl rfl ?_
      go_simp
      refine Onward.last rfl ?_
      try simp only [Act.put, List.getElem_toArray, List.getElem_cons_succ, List.getElem_cons_zero, List.setIfInBounds_toArray, List.set_cons_zero, List.set_cons_succ]
      refine AnyG.done (by kernel_rfl) ?_ _
      go_simp
      have hC : Below wr.heap.size wr y5 := hS
      replace hB := hB.trans (hC.mono hB.size)
      replace kR := kR.call hC
      replace hVr := hVr.call hC
      replace hSr := (hSr.below hC).more hC.size
      replace hc0 := cellC hC hc0
      have HBS2 := Lib.hid (show (bst (okB v) (woB v) (LL.take k) = none ∧ n = 0 ∧ mo = -1) ∨ ∃ s, bst (okB v) (woB v) (LL.take k) = some s ∧ s.length = n ∧ n = p.ln ∧ mo = woB v s ∧ Sl y5 y5.heap.size 1 A (inr s) from by
        rcases HBS.out with h | ⟨s', h1, h2, h3, h4, h5⟩
        · exact .inl h
        · exact .inr ⟨s', h1, h2, h3, h4, (h5.below hC).more hC.size⟩)
      obtain ⟨U, hU⟩ : ∃ x, y5 = x := ⟨_, rfl⟩
      rw [hU] at hB kR hVr hSr hc0 HBS2 ⊢
      clear hS hb5 hC hU HBS
      go_upto_region 11 with fail
      have hYN : okB v s = true → mo < wo → Hid ((bst (okB v) (woB v) (LL.take (k + 1)) = none ∧ p.ln = 0 ∧ wo = -1) ∨ ∃ s', bst (okB v) (woB v) (LL.take (k + 1)) = some s' ∧ s'.length = p.ln ∧ p.ln = p.ln ∧ wo = woB v s' ∧ Sl U U.heap.size 1 G (inr s')) := fun h1 h2 =>
        Lib.hid (.inr ⟨s, by rw [HPK.out, if_pos ⟨h1, by rw [HWO.out]; exact h2⟩], HSL.out, rfl, HWO.out.symm, hSr⟩)
      have hNN : ¬ (okB v s = true ∧ mo < wo) → Hid ((bst (okB v) (woB v) (LL.take (k + 1)) = none ∧ n = 0 ∧ mo = -1) ∨ ∃ s', bst (okB v) (woB v) (LL.take (k + 1)) = some s' ∧ s'.length = n ∧ n = p.ln ∧ mo = woB v s' ∧ Sl U U.heap.size 1 A (inr s')) := fun h => by
        rw [HPK.out, if_neg (by rw [HWO.out]; exact h)]
        exact HBS2
      have HYN := Lib.hid hYN
      have HNN := Lib.hid hNN
      clear hYN hNN
      by_cases hmw : mo < wo
      · have d1 : decide (mo < wo) = true := decide_eq_true hmw
        have HMW := Lib.hid hmw
        clear hmw
        refine AnyG.startC (by kernel_rfl) ?_
        refine AnyG.takeP (i := 0) (v := ?_) rfl (by kernel_rfl) (fun _ _ _ h => h) rfl ?_ ?_
        rotate_left
        · (intro w'; go_simp; try with_reducible rfl)
        try simp only [Act.put, List.getElem_toArray, List.getElem_cons_succ, List.getElem_cons_zero, List.setIfInBounds_toArray, List.set_cons_zero, List.set_cons_succ]
        refine AnyG.takeP (i := 1) (v := ?_) rfl (by kernel_rfl) (fun _ _ _ h => h) rfl ?_ ?_
        rotate_left
        · (intro w'; go_simp; try with_reducible rfl)
        try simp only [Act.put, List.getElem_toArray, List.getElem_cons_succ, List.getElem_cons_zero, List.setIfInBounds_toArray, List.set_cons_zero, List.set_cons_succ]
        refine AnyG.takeP (i := 2) (v := ?_) rfl (by kernel_rfl) (fun _ _ _ h => h) rfl ?_ ?_
        rotate_left
        · (intro w'; go_simp; try with_reducible rfl)
        try simp only [Act.put, List.getElem_toArray, List.getElem_cons_succ, List.getElem_cons_zero, List.setIfInBounds_toArray, List.set_cons_zero, List.set_cons_succ]
        refine AnyG.takeP (i := 3) (v := ?_) rfl (by kernel_rfl) (fun _ _ _ h => h) rfl ?_ ?_
        rotate_left
        · (intro w'; go_simp; try with_reducible rfl)
        try simp only [Act.put, List.getElem_toArray, List.getElem_cons_succ, List.getElem_cons_zero, List.setIfInBounds_toArray, List.set_cons_zero, List.set_cons_succ]
        refine AnyG.enter (fun w' : World => Below U.heap.size U w') (fun i => true) ?_
        have hS : (fun w' : World => Below U.heap.size U w') (World.drew _) := (Below.refl _ _).drew
        refine AnyG.takeGC (i := 4) (v := ?_) rfl (by kernel_rfl) (fun _ _ _ h => h) (by first | (simp [Region.wanted, yielded]; done) | simp [Region.wanted, yielded, undef]) ?_ hS ?_
        rotate_left
        · (intro w' hSw; (try dsimp only at hSw); obtain ⟨x0, x1, x2, x3, x4, x5, x6, xf, xz⟩ := (kR.call hSw).seven; go_simp; try with_reducible rfl)
        try simp only [Act.put, List.getElem_toArray, List.getElem_cons_succ, List.getElem_cons_zero, List.setIfInBounds_toArray, List.set_cons_zero, List.set_cons_succ]
        refine AnyG.takeGC (i := 5) (v := ?_) rfl (by kernel_rfl) (fun _ _ _ h => h) (by first | (simp [Region.wanted, yielded]; done) | simp [Region.wanted, yielded, undef]) ?_ hS ?_
        rotate_left
        · (intro w' hSw; (try dsimp only at hSw); go_simp; try with_reducible rfl)
        try simp only [Act.put, List.getElem_toArray, List.getElem_cons_succ, List.getElem_cons_zero, List.setIfInBounds_toArray, List.set_cons_zero, List.set_cons_succ]
        refine AnyG.takeGC (i := 6) (v := ?_) rfl (by kernel_rfl) (fun _ _ _ h => h) (by first | (simp [Region.wanted, yielded]; done) | simp [Region.wanted, yielded, undef]) ?_ hS ?_
        rotate_left
        · (intro w' hSw; (try dsimp only at hSw); go_simp; try with_reducible rfl)
        try simp only [Act.put, List.getElem_toArray, List.getElem_cons_succ, List.getElem_cons_zero, List.setIfInBounds_toArray, List.set_cons_zero, List.set_cons_succ]
        refine AnyG.takeGC (i := 7) (v := ?_) rfl (by kernel_rfl) (fun _ _ _ h => h) (by first | (simp [Region.wanted, yielded]; done) | simp [Region.wanted, yielded, undef]) ?_ hS ?_
        rotate_left
        · (intro w' hSw; (try dsimp only at hSw); go_simp; try with_reducible rfl)
        try simp only [Act.put, List.getElem_toArray, List.getElem_cons_succ, List.getElem_cons_zero, List.setIfInBounds_toArray, List.set_cons_zero, List.set_cons_succ]
        refine AnyG.takeGC (i := 8) (v := ?_) rfl (by kernel_rfl) (fun _ _ _ h => h) (by first | (simp [Region.wanted, yielded]; done) | simp [Region.wanted, yielded, undef]) ?_ hS ?_
        rotate_left
        · (intro w' hSw; (try dsimp only at hSw); have p0 := cellC hSw hc0; go_simp; try with_reducible rfl)
        try simp only [Act.put, List.getElem_toArray, List.getElem_cons_succ, List.getElem_cons_zero, List.setIfInBounds_toArray, List.set_cons_zero, List.set_cons_succ]
        refine AnyG.oneC (i := 9) (by kernel_rfl) rfl (by first | (simp [Region.wanted, yielded]; done) | simp [Region.wanted, yielded, undef]) ?_
        go_simp
        refine (refGood_any v p G gc s _ HCK.out (hVr.call hS) ((hSr.below hS).more hS.size) HSL.out HIN.out).mono ?_
        rintro e9 y9 ⟨rfl, hb9⟩
        rw [HGD.out]
        refine Onward.on (hS.trans (hb9.mono hS.size)) (fun hS2 => ?_)
        clear hS
        have hS := hS2
        clear hS2
        try simp only [Act.put, List.getElem_toArray, List.getElem_cons_succ, List.getElem_cons_zero, List.setIfInBounds_toArray, List.set_cons_zero, List.set_cons_succ]
        refine AnyG.takeC (i := 10) (v := ?_) rfl (by kernel_rfl) (fun _ _ _ h => h) rfl ?_ hS ?_
        rotate_left
        · (intro w' hSw; (try dsimp only at hSw); go_simp; try with_reducible rfl)
        try simp only [Act.put, List.getElem_toArray, List.getElem_cons_succ, List.getElem_cons_zero, List.setIfInBounds_toArray, List.set_cons_zero, List.set_cons_succ]
        refine AnyG.done (by kernel_rfl) ?_ _
        go_simp
        have hC : Below U.heap.size U y9 := hS
        replace hB := hB.trans (hC.mono hB.size)
        replace hc0 := cellC hC hc0
        cases gd
        · have HB3 := HNN.out (fun h => by rw [HGD.out] at h; cases h.1)
          have HM3 := Lib.hid (HNO.out (fun h => by rw [HGD.out] at h; cases h.1))
          go_wp2_with fail
          exact ⟨⟨k + 1, A, n, c, mo, by go_num, by omega, rfl, rfl, hid_mono9 HB3 hC, Lib.hid ⟨_, HM3.out⟩, hB⟩, by simp [intOf]; omega⟩
        · have HB3 := HYN.out HGD.out HMW.out
          have HM3 := Lib.hid (HYES.out HGD.out (by rw [HWO.out]; exact HMW.out))
          rw [HWO.out] at HM3
          go_wp2_with fail
          exact ⟨⟨k + 1, G, p.ln, gc, wo, by go_num, by omega, rfl, rfl, hid_mono9 HB3 hC, Lib.hid ⟨_, HM3.out⟩, hB⟩, by simp [intOf]; omega⟩
      · have d1 : decide (mo < wo) = false := decide_eq_false hmw
        have HB3 := HNN.out (fun h => hmw h.2)
        have HM3 := Lib.hid (HNO.out (fun h => hmw (by rw [← HWO.out]; exact h.2)))
        clear hmw
        refine AnyG.startC (by kernel_rfl) ?_
        refine AnyG.takeP (i := 0) (v := ?_) rfl (by kernel_rfl) (fun _ _ _ h => h) rfl ?_ ?_
        rotate_left
        · (intro w'; go_simp; try with_reducible rfl)
        try simp only [Act.put, List.getElem_toArray, List.getElem_cons_succ, List.getElem_cons_zero, List.setIfInBounds_toArray, List.set_cons_zero, List.set_cons_succ]
        refine AnyG.takeP (i := 1) (v := ?_) rfl (by kernel_rfl) (fun _ _ _ h => h) rfl ?_ ?_
        rotate_left
        · (intro w'; go_simp; try with_reducible rfl)
        try simp only [Act.put, List.getElem_toArray, List.getElem_cons_succ, List.getElem_cons_zero, List.setIfInBounds_toArray, List.set_cons_zero, List.set_cons_succ]
        refine AnyG.takeP (i := 2) (v := ?_) rfl (by kernel_rfl) (fun _ _ _ h => h) rfl ?_ ?_
        rotate_left
        · (intro w'; go_simp; try with_reducible rfl)
        try simp only [Act.put, List.getElem_toArray, List.getElem_cons_succ, List.getElem_cons_zero, List.setIfInBounds_toArray, List.set_cons_zero, List.set_cons_succ]
        refine AnyG.takeP (i := 3) (v := ?_) rfl (by kernel_rfl) (fun _ _ _ h => h) rfl ?_ ?_
        rotate_left
        · (intro w'; go_simp; try with_reducible rfl)
        try simp only [Act.put, List.getElem_toArray, List.getElem_cons_succ, List.getElem_cons_zero, List.setIfInBounds_toArray, List.set_cons_zero, List.set_cons_succ]
        refine AnyG.enter (fun w' : World => Below U.heap.size U w') (fun i => true) ?_
        have hS : (fun w' : World => Below U.heap.size U w') (World.drew _) := (Below.refl _ _).drew
        refine AnyG.takeNC (i := 4) rfl (by kernel_rfl) (fun _ _ _ h => h) (by first | (simp [Region.wanted, yielded]; done) | simp [Region.wanted, yielded, undef]) hS ?_
        try simp only [Act.put, List.getElem_toArray, List.getElem_cons_succ, List.getElem_cons_zero, List.setIfInBounds_toArray, List.set_cons_zero, List.set_cons_succ]
        refine AnyG.takeNC (i := 5) rfl (by kernel_rfl) (fun _ _ _ h => h) (by first | (simp [Region.wanted, yielded]; done) | simp [Region.wanted, yielded, undef]) hS ?_
        try simp only [Act.put, List.getElem_toArray, List.getElem_cons_succ, List.getElem_cons_zero, List.setIfInBounds_toArray, List.set_cons_zero, List.set_cons_succ]
        refine AnyG.takeNC (i := 6) rfl (by kernel_rfl) (fun _ _ _ h => h) (by first | (simp [Region.wanted, yielded]; done) | simp [Region.wanted, yielded, undef]) hS ?_
        try simp only [Act.put, List.getElem_toArray, List.getElem_cons_succ, List.getElem_cons_zero, List.setIfInBounds_toArray, List.set_cons_zero, List.set_cons_succ]
        refine AnyG.takeNC (i := 7) rfl (by kernel_rfl) (fun _ _ _ h => h) (by first | (simp [Region.wanted, yielded]; done) | simp [Region.wanted, yielded, undef]) hS ?_
        try simp only [Act.put, List.getElem_toArray, List.getElem_cons_succ, List.getElem_cons_zero, List.setIfInBounds_toArray, List.set_cons_zero, List.set_cons_succ]
        refine AnyG.takeNC (i := 8) rfl (by kernel_rfl) (fun _ _ _ h => h) (by first | (simp [Region.wanted, yielded]; done) | simp [Region.wanted, yielded, undef]) hS ?_
        try simp only [Act.put, List.getElem_toArray, List.getElem_cons_succ, List.getElem_cons_zero, List.setIfInBounds_toArray, List.set_cons_zero, List.set_cons_succ]
        refine AnyG.takeNC (i := 9) rfl (by kernel_rfl) (fun _ _ _ h => h) (by first | (simp [Region.wanted, yielded]; done) | simp [Region.wanted, yielded, undef]) hS ?_
        try simp only [Act.put, List.getElem_toArray, List.getElem_cons_succ, List.getElem_cons_zero, List.setIfInBounds_toArray, List.set_cons_zero, List.set_cons_succ]
        refine AnyG.takeC (i := 10) (v := ?_) rfl (by kernel_rfl) (fun _ _ _ h => h) rfl ?_ hS ?_
        rotate_left
        · (intro w' hSw; (try dsimp only at hSw); go_simp; try with_reducible rfl)
        try simp only [Act.put, List.getElem_toArray, List.getElem_cons_succ, List.getElem_cons_zero, List.setIfInBounds_toArray, List.set_cons_zero, List.set_cons_succ]
        refine AnyG.done (by kernel_rfl) ?_ _
        go_simp
        have hC : Below U.heap.size U _ := hS
        replace hB := hB.trans (hC.mono hB.size)
        go_wp2_with fail
        exact ⟨⟨k + 1, A, n, c, mo, by go_num, by omega, rfl, rfl, hid_mono9 HB3 hC, Lib.hid ⟨_, HM3.out⟩, hB⟩, by simp [intOf]; omega⟩
    · obtain rfl : k = N := by omega
      rw [List.take_of_length_le (by rw [HN.out]; exact Nat.le_refl _)] at HBS
      clear HMO
      go_wp2_with fail
      exact bodyPost_ret (v := .tuple #[.slice A n c, .int .i64 mo, .int .i64 0]) (by simp [results, Try.results37, go_sem]) rfl ⟨⟨A, n, c, mo, rfl, by rw [HLLe.out]; exact HBS⟩, hBW.trans (hB.mono hBW.size)⟩

end Go.Proofs.Ytfcpjkofbejleaa
