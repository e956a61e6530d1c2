/- The reference: way 99. -/
import Derived.Test.YtfcpjkofbejleaaRsa
set_option linter.unusedSimpArgs false
set_option linter.unusedVariables false
namespace Go.Proofs.Ytfcpjkofbejleaa
open Go Go.RowKit
set_option maxRecDepth 100000 in
set_option maxHeartbeats 4000000 in
theorem refWay_true (v : Vg) (p : Vp) (nd : Int) (w : World) (ho : v.Ok) (hz : Zer v) (hV0 : VoyAt w w.heap.size v p) (hnd : 0 ≤ nd ∧ nd ≤ 1000000000) :
    Calls Try.prog 99 #[.agg (vcs v p), .int .i64 nd, .bool true] w fun e w' => (∃ A n c, e = .returned (.slice A n c) ∧ w'.ownsRow w.heap.size 3 1 (.slice A n c) n (inr (sal (slM nd v.ss true) v.le)).flatten ∧ Hid ((sal (slM nd v.ss true) v.le).length = n)) ∧ Below w.heap.size w w' := by
  have k0 := Bx.new w 26 (vcs v p)
  have B0 := (Below.refl w.heap.size w).alloc (Nat.le_refl _) (.cells (vcs v p) 26)
  have hV := hV0.call B0
  have hsn4 : p.sn ≤ 4 := by rw [← hV0.sl]; exact ho.s4
  have hle := ho.le
  obtain ⟨i3, hi3, hz3, hs3, iy3⟩ := info_parts info3'
  rw [vcs_def] at k0 B0 ⊢
  obtain ⟨W1, hW1⟩ : ∃ x, w.alloc (.cells #[.int .i64 v.li, .int .i64 v.un, .int .i64 v.tr, .slice p.HA p.hn p.hc, .int .i64 v.le, .slice p.SA p.sn p.sc, .slice p.LA p.ln p.lc] 26) = x := ⟨_, rfl⟩
  have HW := Lib.hid hW1
  rw [vcs_def, hW1] at hV
  rw [hW1] at k0 B0
  have HSL := Lib.hid hV.sl
  have HO := Lib.hid ho
  have HZ := Lib.hid hz
  have HVV := Lib.hid hV
  have HI0 := Lib.hid (show sal (slM nd v.ss true) v.le = ([] : List Int) ++ sal (slM nd (v.ss.drop 0) true) v.le from rfl)
  clear hW1 ho hz hV0 hV
  obtain ⟨l0, l1, l2, l3, l4, l5, l6, lf', lz⟩ := k0.seven
  go_enter Try.func99, Try.ntmps99
  go_upto_region 1 with fail
  rw [HW.out]
  go_wp2_with fail
  clear l0 l1 l2 l3 l4 l5 l6 lf' lz
  go_loopw [7, 8, 9, 10, 11] (fun lv at_ i _ _ wr => ∃ (k : Nat) (X : Option Addr) (c : Nat) (L : List Int) (a : Int), k ≤ p.sn ∧ i = .int .i64 k ∧ lv = .slice X k c ∧ at_ = .int .i64 a ∧ 0 ≤ a ∧ a ≤ 2880 ∧ Hid (L.length = k ∧ sal (slM nd v.ss true) v.le = L ++ sal (slM nd (v.ss.drop k) true) a) ∧ wr.ownsRow W1.heap.size 3 1 (.slice X k c) k (inr L).flatten ∧ Below W1.heap.size W1 wr ∧ Bx wr w.heap.size 26 #[.int .i64 v.li, .int .i64 v.un, .int .i64 v.tr, .slice p.HA p.hn p.hc, .int .i64 v.le, .slice p.SA p.sn p.sc, .slice p.LA p.ln p.lc]) (fun _ _ i _ _ _ => p.sn - (intOf i).toNat)
  case atStart => exact ⟨0, none, 0, [], v.le, by omega, rfl, rfl, rfl, by omega, by omega, Lib.hid ⟨rfl, HI0.out⟩, World.ownsRow_nil _ _ _ _, Below.refl _ _, k0⟩
  case round =>
    clear k0 HI0
    obtain ⟨k, X, c, L, a, hk, rfl, rfl, rfl, ha0, ha1, HLK, oL, hB1, kr⟩ := hrel
    obtain ⟨l0, l1, l2, l3, l4, l5, l6, lf', lz⟩ := kr.seven
    by_cases hkn : k < p.sn
    · have hke : k < v.ss.length := by rw [HSL.out]; exact hkn
      have hbo := HO.out.ss _ (List.getElem_mem hke)
      have hzb := HZ.out _ (List.getElem_mem hke)
      have hdr := sal_drop (nd := nd) (g := true) (a := a) hke
      obtain ⟨ad, G, gc, hSA, _, q0, q1, q2, hgc, hG⟩ := (HVV.out.call hB1).ss.at_ hke
      generalize v.ss[k] = b at *
      obtain ⟨gn, hgn⟩ : ∃ n, b.lv.length = n := ⟨_, rfl⟩
      rw [hgn] at q2
      have hg6 : gn ≤ 6 := by rw [← hgn]; exact hbo.l6
      have HGN := Lib.hid hgn
      rw [hSA] at l5
      have HSA := Lib.hid hSA
      have HBO := Lib.hid hbo
      have HZ0 := Lib.hid hzb
      have hb0 := hbo.t0
      have hb1 := hbo.t01
      have hb2 := hbo.t1
      have hcb : 0 ≤ a + b.t0 ∧ a + b.t0 ≤ 10000 := by omega
      have hw0 : IntKind.i64.wrap (a + b.t0) = a + b.t0 := IntWalk.i64_in _ (by omega)
      have hw1 : IntKind.i64.wrap (a + b.t1) = a + b.t1 := IntWalk.i64_in _ (by omega)
      have hiw : IntKind.i64.wrap ((k : Int) + 1) = (k : Int) + 1 := IntWalk.i64_in _ (by omega)
      obtain ⟨o, hoo⟩ : ∃ o, ovr (fun m => decide (nd ≤ 1000 * dpt (lvL b.lv true) m)) (a + b.t0) = o := ⟨_, rfl⟩
      have hwy : a + way b true = a + b.t0 := rfl
      rw [hwy, hoo] at hdr
      have hom : ∀ m, o = some m → 0 ≤ m ∧ m ≤ 2880 := fun m hm => by
        rw [hm] at hoo
        obtain ⟨h1, h2, _, _⟩ := ovr_some.1 hoo
        omega
      have HDR := Lib.hid hdr
      have HOM := Lib.hid hom
      obtain ⟨r, hr⟩ : ∃ r, oI o = r := ⟨_, rfl⟩
      have HR := Lib.hid (show oI (ovr (fun m => decide (nd ≤ 1000 * dpt (lvL b.lv true) m)) (a + b.t0)) = r by rw [hoo]; exact hr)
      have HRO := Lib.hid hr
      clear hSA hgn hgc hbo hzb hdr hoo hom hr hwy hke
      go_upto_region 7 with fail
      have kn := Bx.new wr 73 #[.int .i64 b.t0, .int .i64 b.t1, .slice G gn gc]
      have hq := bel1 wr (.cells #[.int .i64 b.t0, .int .i64 b.t1, .slice G gn gc] 73)
      replace hG := (hG.below hq).more hq.size
      replace oL := oL.alloc (.cells #[.int .i64 b.t0, .int .i64 b.t1, .slice G gn gc] 73)
      replace hB1 := hB1.alloc hB1.size (.cells #[.int .i64 b.t0, .int .i64 b.t1, .slice G gn gc] 73)
      replace kr := kr.alloc (.cells #[.int .i64 b.t0, .int .i64 b.t1, .slice G gn gc] 73)
      obtain ⟨U, hU⟩ : ∃ x, wr.alloc (.cells #[.int .i64 b.t0, .int .i64 b.t1, .slice G gn gc] 73) = x := ⟨_, rfl⟩
      rw [hU] at kn hG oL hB1 kr ⊢
      obtain ⟨qn, hqn⟩ : ∃ q, wr.heap.size = q := ⟨_, rfl⟩
      rw [hqn] at kn ⊢
      clear hU hqn hq l0 l1 l2 l3 l4 l5 l6 lf' lz q0 q1 q2
      obtain ⟨x0, x1, x2, xf, xz⟩ := kn.three'
      go_upto_region 10 with fail
      clear x0 x1 x2 xf xz
      go_cut [8] from 14 to 50 (fun v8 x => v8 = .int .i64 r ∧ Below U.heap.size U x)
      case first =>
        refine AnyG.startC (by kernel_rfl) ?_
        refine AnyG.takeP (i := 2) (v := ?_) rfl (by kernel_rfl) (fun _ _ _ h => h) rfl ?_ ?_
        rotate_left
        · (intro w'; go_simp; try with_reducible rfl)
        try simp only [Act.put, List.getElem_toArray, List.getElem_cons_succ, List.getElem_cons_zero, List.setIfInBounds_toArray, List.set_cons_zero, List.set_cons_succ]
        refine AnyG.takeP (i := 4) (v := ?_) rfl (by kernel_rfl) (fun _ _ _ h => h) rfl ?_ ?_
        rotate_left
        · (intro w'; go_simp; try with_reducible rfl)
        try simp only [Act.put, List.getElem_toArray, List.getElem_cons_succ, List.getElem_cons_zero, List.setIfInBounds_toArray, List.set_cons_zero, List.set_cons_succ]
        refine AnyG.takeP (i := 5) (v := ?_) rfl (by kernel_rfl) (fun _ _ _ h => h) rfl ?_ ?_
        rotate_left
        · (intro w'; go_simp; try with_reducible rfl)
        try simp only [Act.put, List.getElem_toArray, List.getElem_cons_succ, List.getElem_cons_zero, List.setIfInBounds_toArray, List.set_cons_zero, List.set_cons_succ]
        refine AnyG.enter (fun w' : World => Below U.heap.size U w') (fun i => i != 7) ?_
        have hS : (fun w' : World => Below U.heap.size U w') (World.drew _) := (Below.refl _ _).drew
        refine AnyG.takeC (i := 0) (v := ?_) rfl (by kernel_rfl) (fun _ _ _ h => h) rfl ?_ hS ?_
        rotate_left
        · (intro w' hSw; (try dsimp only at hSw); obtain ⟨x0, x1, x2, xf, xz⟩ := (kn.call hSw).three'; go_simp; try with_reducible rfl)
        try simp only [Act.put, List.getElem_toArray, List.getElem_cons_succ, List.getElem_cons_zero, List.setIfInBounds_toArray, List.set_cons_zero, List.set_cons_succ]
        refine AnyG.takeC (i := 1) (v := ?_) rfl (by kernel_rfl) (fun _ _ _ h => h) rfl ?_ hS ?_
        rotate_left
        · (intro w' hSw; (try dsimp only at hSw); obtain ⟨x0, x1, x2, xf, xz⟩ := (kn.call hSw).three'; go_simp; try with_reducible rfl)
        try simp only [Act.put, List.getElem_toArray, List.getElem_cons_succ, List.getElem_cons_zero, List.setIfInBounds_toArray, List.set_cons_zero, List.set_cons_succ]
        refine AnyG.one (i := 3) (by kernel_rfl) rfl rfl ?_
        go_simp
        refine (refDepths_any b G gn gc true _ HGN.out hg6 (hG.call hS)).mono ?_
        rintro e3 y3 ⟨⟨DA, dc, rfl, oD⟩, hb3⟩
        have hDs := own_inr oD (by rw [List.length_map]; exact HGN.out)
        refine Onward.on (hS.trans (hb3.mono hS.size)) (fun hS2 => ?_)
        clear hS
        have hS := hS2
        clear hS2
        try simp only [Act.put, List.getElem_toArray, List.getElem_cons_succ, List.getElem_cons_zero, List.setIfInBounds_toArray, List.set_cons_zero, List.set_cons_succ]
        refine AnyG.one (i := 6) (by kernel_rfl) rfl rfl ?_
        go_simp
        refine (refOver_any b G gn gc DA dc true (a + b.t0) nd _ HBO.out HZ0.out HGN.out (hG.call hS) hDs hcb hnd).mono ?_
        rintro e6 y6 ⟨rfl, hb6⟩
        rw [HR.out]
        refine Onward.on (hS.trans (hb6.mono hS.size)) (fun hS2 => ?_)
        clear hS
        have hS := hS2
        clear hS2
        try simp only [Act.put, List.getElem_toArray, List.getElem_cons_succ, List.getElem_cons_zero, List.setIfInBounds_toArray, List.set_cons_zero, List.set_cons_succ]
        refine AnyG.one (i := 7) (by kernel_rfl) rfl rfl ?_
        go_simp
        refine Onward.last rfl ?_
        try simp only [Act.put, List.getElem_toArray, List.getElem_cons_succ, List.getElem_cons_zero, List.setIfInBounds_toArray, List.set_cons_zero, List.set_cons_succ]
        refine AnyG.done (by kernel_rfl) ?_ _
        go_simp
        go_wp2_with fail
        go_meet
        exact ⟨rfl, hS⟩
      case rest =>
        obtain ⟨rfl, hBU⟩ := hcut
        replace oL := own_bel oL hBU
        replace hB1 := hB1.trans (hBU.mono hB1.size)
        replace kr := kr.call hBU
        clear hBU kn hG
        obtain ⟨U2, hU2⟩ : ∃ U, U = wc := ⟨_, rfl⟩
        subst hU2
        have e99 := HRO.out
        cases o with
        | none =>
          obtain rfl : r = -1 := e99.symm
          have HE := Lib.hid (show sal (slM nd v.ss true) v.le = L by rw [HLK.out.2, HDR.out]; simp)
          clear e99
          go_wp2_with fail
          go_ret
          exact ⟨⟨X, k, c, rfl, by rw [HE.out]; exact own_down oL B0.size, Lib.hid (by rw [HE.out]; exact HLK.out.1)⟩, B0.trans (hB1.mono B0.size)⟩
        | some m =>
          obtain rfl : r = m := e99.symm
          obtain ⟨hm0, hm1⟩ := HOM.out r rfl
          have hrn : decide (r < 0) = false := decide_eq_false (by omega)
          have HE := Lib.hid (show sal (slM nd v.ss true) v.le = (L ++ [r]) ++ sal (slM nd (v.ss.drop (k + 1)) true) r by rw [HLK.out.2, HDR.out, List.append_assoc]; rfl)
          have HLn := Lib.hid HLK.out.1
          clear e99
          have kn := Bx.new U2 3 #[.int .i64 r]
          have oL1 := oL.alloc (.cells #[.int .i64 r] 3)
          have hB3 := hB1.alloc hB1.size (.cells #[.int .i64 r] 3)
          have k1 := kr.alloc (.cells #[.int .i64 r] 3)
          have hBs := hB3.size
          go_wp2_with (first
            | (at_builtin; refine wpList_append_own _ rfl (.tmp 47) (.tmp 49) 27 rfl W1.heap.size 3 i3 _ 1 8 Try.underlying27 hi3 hz3 hs3 iy3 rfl (by decide) (.slice X k c) k (inr L).flatten rfl oL1 ⟨U2.heap.size, 0, none⟩ 1 1 [.int .i64 r] rfl rfl (bx_news kn) (by simp [Value.oneCell']) (by unfold maxLen; omega) (by omega) (by omega) ?_; intro v' w' o1 o2 o3; obtain ⟨X', x', rfl⟩ := own_shape o1)
            | fail)
          go_roundw
          case rel => exact ⟨k + 1, X', x', _, r, by omega, by go_num, rfl, rfl, hm0, hm1, Lib.hid ⟨by rw [List.length_append, HLn.out]; rfl, HE.out⟩, by rw [inr_snoc]; exact o1, hB3.grown o2 hB3.size (fun i e => (oL1.lt i e).1), k1.grown o2 (own_bx oL1 k1 (by decide))⟩
          case measure => simp [intOf]; omega
    · obtain rfl : k = p.sn := by omega
      have HE := Lib.hid (show sal (slM nd v.ss true) v.le = L by rw [HLK.out.2, List.drop_of_length_le (by rw [HSL.out]; exact Nat.le_refl _)]; simp [slM, sal])
      have HLn := Lib.hid HLK.out.1
      go_wp2_with fail
      go_ret
      exact ⟨⟨X, p.sn, c, rfl, by rw [HE.out]; exact own_down oL B0.size, Lib.hid (by rw [HE.out]; exact HLn.out)⟩, B0.trans (hB1.mono B0.size)⟩
set_option maxRecDepth 100000 in
set_option maxHeartbeats 4000000 in
theorem refWay_false (v : Vg) (p : Vp) (nd : Int) (w : World) (ho : v.Ok) (hz : Zer v) (hV0 : VoyAt w w.heap.size v p) (hnd : 0 ≤ nd ∧ nd ≤ 1000000000) :
    Calls Try.prog 99 #[.agg (vcs v p), .int .i64 nd, .bool false] w fun e w' => (∃ A n c, e = .returned (.slice A n c) ∧ w'.ownsRow w.heap.size 3 1 (.slice A n c) n (inr (sal (slM nd v.ss false) v.le)).flatten ∧ Hid ((sal (slM nd v.ss false) v.le).length = n)) ∧ Below w.heap.size w w' := by
  have k0 := Bx.new w 26 (vcs v p)
  have B0 := (Below.refl w.heap.size w).alloc (Nat.le_refl _) (.cells (vcs v p) 26)
  have hV := hV0.call B0
  have hsn4 : p.sn ≤ 4 := by rw [← hV0.sl]; exact ho.s4
  have hle := ho.le
  obtain ⟨i3, hi3, hz3, hs3, iy3⟩ := info_parts info3'
  rw [vcs_def] at k0 B0 ⊢
  obtain ⟨W1, hW1⟩ : ∃ x, w.alloc (.cells #[.int .i64 v.li, .int .i64 v.un, .int .i64 v.tr, .slice p.HA p.hn p.hc, .int .i64 v.le, .slice p.SA p.sn p.sc, .slice p.LA p.ln p.lc] 26) = x := ⟨_, rfl⟩
  have HW := Lib.hid hW1
  rw [vcs_def, hW1] at hV
  rw [hW1] at k0 B0
  have HSL := Lib.hid hV.sl
  have HO := Lib.hid ho
  have HZ := Lib.hid hz
  have HVV := Lib.hid hV
  have HI0 := Lib.hid (show sal (slM nd v.ss false) v.le = ([] : List Int) ++ sal (slM nd (v.ss.drop 0) false) v.le from rfl)
  clear hW1 ho hz hV0 hV
  obtain ⟨l0, l1, l2, l3, l4, l5, l6, lf', lz⟩ := k0.seven
  go_enter Try.func99, Try.ntmps99
  go_upto_region 1 with fail
  rw [HW.out]
  go_wp2_with fail
  clear l0 l1 l2 l3 l4 l5 l6 lf' lz
  go_loopw [7, 8, 9, 10, 11] (fun lv at_ i _ _ wr => ∃ (k : Nat) (X : Option Addr) (c : Nat) (L : List Int) (a : Int), k ≤ p.sn ∧ i = .int .i64 k ∧ lv = .slice X k c ∧ at_ = .int .i64 a ∧ 0 ≤ a ∧ a ≤ 2880 ∧ Hid (L.length = k ∧ sal (slM nd v.ss false) v.le = L ++ sal (slM nd (v.ss.drop k) false) a) ∧ wr.ownsRow W1.heap.size 3 1 (.slice X k c) k (inr L).flatten ∧ Below W1.heap.size W1 wr ∧ Bx wr w.heap.size 26 #[.int .i64 v.li, .int .i64 v.un, .int .i64 v.tr, .slice p.HA p.hn p.hc, .int .i64 v.le, .slice p.SA p.sn p.sc, .slice p.LA p.ln p.lc]) (fun _ _ i _ _ _ => p.sn - (intOf i).toNat)
  case atStart => exact ⟨0, none, 0, [], v.le, by omega, rfl, rfl, rfl, by omega, by omega, Lib.hid ⟨rfl, HI0.out⟩, World.ownsRow_nil _ _ _ _, Below.refl _ _, k0⟩
  case round =>
    clear k0 HI0
    obtain ⟨k, X, c, L, a, hk, rfl, rfl, rfl, ha0, ha1, HLK, oL, hB1, kr⟩ := hrel
    obtain ⟨l0, l1, l2, l3, l4, l5, l6, lf', lz⟩ := kr.seven
    by_cases hkn : k < p.sn
    · have hke : k < v.ss.length := by rw [HSL.out]; exact hkn
      have hbo := HO.out.ss _ (List.getElem_mem hke)
      have hzb := HZ.out _ (List.getElem_mem hke)
      have hdr := sal_drop (nd := nd) (g := false) (a := a) hke
      obtain ⟨ad, G, gc, hSA, _, q0, q1, q2, hgc, hG⟩ := (HVV.out.call hB1).ss.at_ hke
      generalize v.ss[k] = b at *
      obtain ⟨gn, hgn⟩ : ∃ n, b.lv.length = n := ⟨_, rfl⟩
      rw [hgn] at q2
      have hg6 : gn ≤ 6 := by rw [← hgn]; exact hbo.l6
      have HGN := Lib.hid hgn
      rw [hSA] at l5
      have HSA := Lib.hid hSA
      have HBO := Lib.hid hbo
      have HZ0 := Lib.hid hzb
      have hb0 := hbo.t0
      have hb1 := hbo.t01
      have hb2 := hbo.t1
      have hcb : 0 ≤ a + b.t1 ∧ a + b.t1 ≤ 10000 := by omega
      have hw0 : IntKind.i64.wrap (a + b.t0) = a + b.t0 := IntWalk.i64_in _ (by omega)
      have hw1 : IntKind.i64.wrap (a + b.t1) = a + b.t1 := IntWalk.i64_in _ (by omega)
      have hiw : IntKind.i64.wrap ((k : Int) + 1) = (k : Int) + 1 := IntWalk.i64_in _ (by omega)
      obtain ⟨o, hoo⟩ : ∃ o, ovr (fun m => decide (nd ≤ 1000 * dpt (lvL b.lv false) m)) (a + b.t1) = o := ⟨_, rfl⟩
      have hwy : a + way b false = a + b.t1 := rfl
      rw [hwy, hoo] at hdr
      have hom : ∀ m, o = some m → 0 ≤ m ∧ m ≤ 2880 := fun m hm => by
        rw [hm] at hoo
        obtain ⟨h1, h2, _, _⟩ := ovr_some.1 hoo
        omega
      have HDR := Lib.hid hdr
      have HOM := Lib.hid hom
      obtain ⟨r, hr⟩ : ∃ r, oI o = r := ⟨_, rfl⟩
      have HR := Lib.hid (show oI (ovr (fun m => decide (nd ≤ 1000 * dpt (lvL b.lv false) m)) (a + b.t1)) = r by rw [hoo]; exact hr)
      have HRO := Lib.hid hr
      clear hSA hgn hgc hbo hzb hdr hoo hom hr hwy hke
      go_upto_region 7 with fail
      have kn := Bx.new wr 73 #[.int .i64 b.t0, .int .i64 b.t1, .slice G gn gc]
      have hq := bel1 wr (.cells #[.int .i64 b.t0, .int .i64 b.t1, .slice G gn gc] 73)
      replace hG := (hG.below hq).more hq.size
      replace oL := oL.alloc (.cells #[.int .i64 b.t0, .int .i64 b.t1, .slice G gn gc] 73)
      replace hB1 := hB1.alloc hB1.size (.cells #[.int .i64 b.t0, .int .i64 b.t1, .slice G gn gc] 73)
      replace kr := kr.alloc (.cells #[.int .i64 b.t0, .int .i64 b.t1, .slice G gn gc] 73)
      obtain ⟨U, hU⟩ : ∃ x, wr.alloc (.cells #[.int .i64 b.t0, .int .i64 b.t1, .slice G gn gc] 73) = x := ⟨_, rfl⟩
      rw [hU] at kn hG oL hB1 kr ⊢
      obtain ⟨qn, hqn⟩ : ∃ q, wr.heap.size = q := ⟨_, rfl⟩
      rw [hqn] at kn ⊢
      clear hU hqn hq l0 l1 l2 l3 l4 l5 l6 lf' lz q0 q1 q2
      obtain ⟨x0, x1, x2, xf, xz⟩ := kn.three'
      go_upto_region 10 with fail
      clear x0 x1 x2 xf xz
      go_cut [8] from 14 to 50 (fun v8 x => v8 = .int .i64 r ∧ Below U.heap.size U x)
      case first =>
        refine AnyG.startC (by kernel_rfl) ?_
        refine AnyG.takeP (i := 2) (v := ?_) rfl (by kernel_rfl) (fun _ _ _ h => h) rfl ?_ ?_
        rotate_left
        · (intro w'; go_simp; try with_reducible rfl)
        try simp only [Act.put, List.getElem_toArray, List.getElem_cons_succ, List.getElem_cons_zero, List.setIfInBounds_toArray, List.set_cons_zero, List.set_cons_succ]
        refine AnyG.takeP (i := 4) (v := ?_) rfl (by kernel_rfl) (fun _ _ _ h => h) rfl ?_ ?_
        rotate_left
        · (intro w'; go_simp; try with_reducible rfl)
        try simp only [Act.put, List.getElem_toArray, List.getElem_cons_succ, List.getElem_cons_zero, List.setIfInBounds_toArray, List.set_cons_zero, List.set_cons_succ]
        refine AnyG.takeP (i := 5) (v := ?_) rfl (by kernel_rfl) (fun _ _ _ h => h) rfl ?_ ?_
        rotate_left
        · (intro w'; go_simp; try with_reducible rfl)
        try simp only [Act.put, List.getElem_toArray, List.getElem_cons_succ, List.getElem_cons_zero, List.setIfInBounds_toArray, List.set_cons_zero, List.set_cons_succ]
        refine AnyG.enter (fun w' : World => Below U.heap.size U w') (fun i => i != 7) ?_
        have hS : (fun w' : World => Below U.heap.size U w') (World.drew _) := (Below.refl _ _).drew
        refine AnyG.takeC (i := 0) (v := ?_) rfl (by kernel_rfl) (fun _ _ _ h => h) rfl ?_ hS ?_
        rotate_left
        · (intro w' hSw; (try dsimp only at hSw); obtain ⟨x0, x1, x2, xf, xz⟩ := (kn.call hSw).three'; go_simp; try with_reducible rfl)
        try simp only [Act.put, List.getElem_toArray, List.getElem_cons_succ, List.getElem_cons_zero, List.setIfInBounds_toArray, List.set_cons_zero, List.set_cons_succ]
        refine AnyG.takeC (i := 1) (v := ?_) rfl (by kernel_rfl) (fun _ _ _ h => h) rfl ?_ hS ?_
        rotate_left
        · (intro w' hSw; (try dsimp only at hSw); obtain ⟨x0, x1, x2, xf, xz⟩ := (kn.call hSw).three'; go_simp; try with_reducible rfl)
        try simp only [Act.put, List.getElem_toArray, List.getElem_cons_succ, List.getElem_cons_zero, List.setIfInBounds_toArray, List.set_cons_zero, List.set_cons_succ]
        refine AnyG.one (i := 3) (by kernel_rfl) rfl rfl ?_
        go_simp
        refine (refDepths_any b G gn gc false _ HGN.out hg6 (hG.call hS)).mono ?_
        rintro e3 y3 ⟨⟨DA, dc, rfl, oD⟩, hb3⟩
        have hDs := own_inr oD (by rw [List.length_map]; exact HGN.out)
        refine Onward.on (hS.trans (hb3.mono hS.size)) (fun hS2 => ?_)
        clear hS
        have hS := hS2
        clear hS2
        try simp only [Act.put, List.getElem_toArray, List.getElem_cons_succ, List.getElem_cons_zero, List.setIfInBounds_toArray, List.set_cons_zero, List.set_cons_succ]
        refine AnyG.one (i := 6) (by kernel_rfl) rfl rfl ?_
        go_simp
        refine (refOver_any b G gn gc DA dc false (a + b.t1) nd _ HBO.out HZ0.out HGN.out (hG.call hS) hDs hcb hnd).mono ?_
        rintro e6 y6 ⟨rfl, hb6⟩
        rw [HR.out]
        refine Onward.on (hS.trans (hb6.mono hS.size)) (fun hS2 => ?_)
        clear hS
        have hS := hS2
        clear hS2
        try simp only [Act.put, List.getElem_toArray, List.getElem_cons_succ, List.getElem_cons_zero, List.setIfInBounds_toArray, List.set_cons_zero, List.set_cons_succ]
        refine AnyG.one (i := 7) (by kernel_rfl) rfl rfl ?_
        go_simp
        refine Onward.last rfl ?_
        try simp only [Act.put, List.getElem_toArray, List.getElem_cons_succ, List.getElem_cons_zero, List.setIfInBounds_toArray, List.set_cons_zero, List.set_cons_succ]
        refine AnyG.done (by kernel_rfl) ?_ _
        go_simp
        go_wp2_with fail
        go_meet
        exact ⟨rfl, hS⟩
      case rest =>
        obtain ⟨rfl, hBU⟩ := hcut
        replace oL := own_bel oL hBU
        replace hB1 := hB1.trans (hBU.mono hB1.size)
        replace kr := kr.call hBU
        clear hBU kn hG
        obtain ⟨U2, hU2⟩ : ∃ U, U = wc := ⟨_, rfl⟩
        subst hU2
        have e99 := HRO.out
        cases o with
        | none =>
          obtain rfl : r = -1 := e99.symm
          have HE := Lib.hid (show sal (slM nd v.ss false) v.le = L by rw [HLK.out.2, HDR.out]; simp)
          clear e99
          go_wp2_with fail
          go_ret
          exact ⟨⟨X, k, c, rfl, by rw [HE.out]; exact own_down oL B0.size, Lib.hid (by rw [HE.out]; exact HLK.out.1)⟩, B0.trans (hB1.mono B0.size)⟩
        | some m =>
          obtain rfl : r = m := e99.symm
          obtain ⟨hm0, hm1⟩ := HOM.out r rfl
          have hrn : decide (r < 0) = false := decide_eq_false (by omega)
          have HE := Lib.hid (show sal (slM nd v.ss false) v.le = (L ++ [r]) ++ sal (slM nd (v.ss.drop (k + 1)) false) r by rw [HLK.out.2, HDR.out, List.append_assoc]; rfl)
          have HLn := Lib.hid HLK.out.1
          clear e99
          have kn := Bx.new U2 3 #[.int .i64 r]
          have oL1 := oL.alloc (.cells #[.int .i64 r] 3)
          have hB3 := hB1.alloc hB1.size (.cells #[.int .i64 r] 3)
          have k1 := kr.alloc (.cells #[.int .i64 r] 3)
          have hBs := hB3.size
          go_wp2_with (first
            | (at_builtin; refine wpList_append_own _ rfl (.tmp 47) (.tmp 49) 27 rfl W1.heap.size 3 i3 _ 1 8 Try.underlying27 hi3 hz3 hs3 iy3 rfl (by decide) (.slice X k c) k (inr L).flatten rfl oL1 ⟨U2.heap.size, 0, none⟩ 1 1 [.int .i64 r] rfl rfl (bx_news kn) (by simp [Value.oneCell']) (by unfold maxLen; omega) (by omega) (by omega) ?_; intro v' w' o1 o2 o3; obtain ⟨X', x', rfl⟩ := own_shape o1)
            | fail)
          go_roundw
          case rel => exact ⟨k + 1, X', x', _, r, by omega, by go_num, rfl, rfl, hm0, hm1, Lib.hid ⟨by rw [List.length_append, HLn.out]; rfl, HE.out⟩, by rw [inr_snoc]; exact o1, hB3.grown o2 hB3.size (fun i e => (oL1.lt i e).1), k1.grown o2 (own_bx oL1 k1 (by decide))⟩
          case measure => simp [intOf]; omega
    · obtain rfl : k = p.sn := by omega
      have HE := Lib.hid (show sal (slM nd v.ss false) v.le = L by rw [HLK.out.2, List.drop_of_length_le (by rw [HSL.out]; exact Nat.le_refl _)]; simp [slM, sal])
      have HLn := Lib.hid HLK.out.1
      go_wp2_with fail
      go_ret
      exact ⟨⟨X, p.sn, c, rfl, by rw [HE.out]; exact own_down oL B0.size, Lib.hid (by rw [HE.out]; exact HLn.out)⟩, B0.trans (hB1.mono B0.size)⟩
theorem refWay_any (v : Vg) (p : Vp) (nd : Int) (g : Bool) (w : World) (ho : v.Ok) (hz : Zer v) (hV0 : VoyAt w w.heap.size v p) (hnd : 0 ≤ nd ∧ nd ≤ 1000000000) :
    Calls Try.prog 99 #[.agg (vcs v p), .int .i64 nd, .bool g] w fun e w' => (∃ A n c, e = .returned (.slice A n c) ∧ w'.ownsRow w.heap.size 3 1 (.slice A n c) n (inr (sal (slM nd v.ss g) v.le)).flatten ∧ Hid ((sal (slM nd v.ss g) v.le).length = n)) ∧ Below w.heap.size w w' := by
  cases g
  · exact refWay_false v p nd w ho hz hV0 hnd
  · exact refWay_true v p nd w ho hz hV0 hnd

end Go.Proofs.Ytfcpjkofbejleaa
