/- swarfref07.Stowages: all stowages. -/
import Derived.Test.YtfcpjkofbejleaaFoM
import Derived.Test.YtfcpjkofbejleaaMsM
import Derived.Test.YtfcpjkofbejleaaYc
set_option linter.unusedSimpArgs false
set_option linter.unusedVariables false
namespace Go.Proofs.Ytfcpjkofbejleaa
open Go Go.RowKit
theorem blks_snoc (A : List (List Int)) : ∀ (c : Nat) (h : Int), blks A h (c + 1) = blks A h c ++ A.map fun l => (h + c) :: l
  | 0, h => by simp [blks]
  | c + 1, h => by
    rw [blks, blks_snoc A c (h + 1), ← List.append_assoc]
    have e : h + 1 + (c : Int) = h + ((c + 1 : Nat) : Int) := by omega
    rw [e]
    rfl
theorem blks_count (A : List (List Int)) : ∀ (c : Nat) (h : Int), (blks A h c).length = c * A.length
  | 0, h => by simp [blks]
  | c + 1, h => by rw [blks_snoc, List.length_append, blks_count A c h, List.length_map, Nat.succ_mul]
/-- The stowages that begin with pre and have a hold below k - 1 next. -/
def stK (last : Int) (m : Nat) (pre : List Int) (k : Nat) : List (List Int) := (blks (allS last m) (-1) k).map fun l => pre ++ l
theorem stK_succ (last : Int) (m : Nat) (pre : List Int) (k : Nat) : stK last m pre (k + 1) = stK last m pre k ++ (allS last m).map fun l => pre ++ (((k : Int) - 1) :: l) := by
  unfold stK
  rw [blks_snoc, List.map_append, List.map_map]
  have e : (-1 : Int) + (k : Int) = (k : Int) - 1 := by omega
  rw [e]
  rfl
theorem stK_len (last : Int) (m : Nat) (pre : List Int) (k : Nat) : (stK last m pre k).length = k * (allS last m).length := by
  unfold stK
  rw [List.length_map, blks_count]
theorem stK_all (last : Int) (m : Nat) (pre : List Int) : stK last m pre (last + 2).toNat = (allS last (m + 1)).map fun l => pre ++ l := rfl
theorem allS_count (last : Int) (h : last ≤ 2) : ∀ m : Nat, (allS last m).length ≤ 4 ^ m
  | 0 => by simp [allS]
  | m + 1 => by
    have := allS_count last h m
    show (blks (allS last m) (-1) (last + 2).toNat).length ≤ _
    rw [blks_count, Nat.pow_succ, Nat.mul_comm (4 ^ m)]
    exact Nat.mul_le_mul (by omega) this
theorem pre_snoc7 (L : List (List Int)) (pre : List Int) (k : Int) : (L.map fun l => (pre ++ [k]) ++ l) = L.map fun l => pre ++ (k :: l) := by
  refine List.map_congr_left fun l _ => by simp
/-- What Stowages gives. -/
def BlP (w : World) (B : Nat) (Ls : List (List Int)) (e : Ending) (w' : World) : Prop :=
  ∃ (A : Option Addr) (c : Nat) (vs : List Value), e = .returned (.slice A Ls.length c) ∧ w'.ownsRow w.heap.size 27 1 (.slice A Ls.length c) Ls.length vs ∧ LsOwn w' B vs Ls ∧ Below w.heap.size w w'
theorem info27b : (Try.prog.info? 27).map (fun i => (i.zero, i.size, i.bytes)) = some (some (.slice none 0 0), 1, 24) := by kernel_rfl
set_option maxRecDepth 100000 in
set_option maxHeartbeats 8000000 in
theorem refStow_any (v : Vg) (p : Vp) (hln : p.ln ≤ 6) (hh1 : 1 ≤ p.hn) (hh3 : p.hn ≤ 3) : ∀ (m n : Nat) (pre : List Int) (A : Option Addr) (c B : Nat) (w : World), n + m = p.ln → pre.length = n → VoyAt w w.heap.size v p → w.ownsRow B 3 1 (.slice A n c) n (inr pre).flatten → B ≤ w.heap.size → (allS ((p.hn : Int) - 1) m).length ≤ 100000 →
    Calls Try.prog 50 #[.agg (vcs v p), .slice A n c] w (BlP w B ((allS ((p.hn : Int) - 1) m).map fun l => pre ++ l)) := by
  obtain ⟨i3, hi3, hz3, hs3, iy3⟩ := info_parts info3'
  obtain ⟨i27, hi27, hz27, hs27, iy27⟩ := info_parts info27b
  rw [vcs_def]
  intro m
  induction m with
  | zero =>
    intro n pre A c B w hp hpl hA hP hBw hcap
    obtain rfl : n = p.ln := by omega
    have k1 := Bx.new w 26 #[.int .i64 v.li, .int .i64 v.un, .int .i64 v.tr, .slice p.HA p.hn p.hc, .int .i64 v.le, .slice p.SA p.sn p.sc, .slice p.LA p.ln p.lc]
    obtain ⟨l0, l1, l2, l3, l4, l5, l6, lf', lz⟩ := k1.seven
    have B0 := (Below.refl w.heap.size w).alloc (Nat.le_refl _) (.cells #[.int .i64 v.li, .int .i64 v.un, .int .i64 v.tr, .slice p.HA p.hn p.hc, .int .i64 v.le, .slice p.SA p.sn p.sc, .slice p.LA p.ln p.lc] 26)
    have hP1 := hP.alloc (.cells #[.int .i64 v.li, .int .i64 v.un, .int .i64 v.tr, .slice p.HA p.hn p.hc, .int .i64 v.le, .slice p.SA p.sn p.sc, .slice p.LA p.ln p.lc] 26)
    go_enter Try.func50, Try.ntmps50
    go_wp2_with fail
    have how : ((w.alloc (.cells #[.int .i64 v.li, .int .i64 v.un, .int .i64 v.tr, .slice p.HA p.hn p.hc, .int .i64 v.le, .slice p.SA p.sn p.sc, .slice p.LA p.ln p.lc] 26)).alloc (.cells #[.slice A p.ln c] 27)).ownsRow w.heap.size 27 1 (.slice (some ⟨w.heap.size + 1, 0, none⟩) 1 1) 1 [.slice A p.ln c] := ⟨rfl, .inr ⟨w.heap.size + 1, 1, #[.slice A p.ln c], rfl, by omega, Bx.at (w.alloc (.cells #[.int .i64 v.li, .int .i64 v.un, .int .i64 v.tr, .slice p.HA p.hn p.hc, .int .i64 v.le, .slice p.SA p.sn p.sc, .slice p.LA p.ln p.lc] 26)) 27 #[.slice A p.ln c] (n := w.heap.size + 1) (by simp), by omega, by unfold maxLen; omega, rfl, rfl⟩⟩
    have hP2 := hP1.alloc (.cells #[.slice A p.ln c] 27)
    have B1 := B0.alloc B0.size (.cells #[.slice A p.ln c] 27)
    go_ret
    have e : (allS ((p.hn : Int) - 1) 0).map (fun l => pre ++ l) = [pre] := by simp [allS]
    rw [e]
    exact ⟨_, _, _, rfl, how, (LsOwn.nil _ B).snoc hpl hP2, B1⟩
  | succ m ih =>
    intro n pre A c B w hp hpl hA hP hBw hcap
    have IH := Lib.hid ih
    have HP := Lib.hid (And.intro hpl hp)
    obtain ⟨la, hla⟩ : ∃ x, (p.hn : Int) - 1 = x := ⟨_, rfl⟩
    rw [hla] at hcap ⊢
    have HLA := Lib.hid hla
    have hla2 : (la + 2).toNat = p.hn + 1 := by omega
    rw [← stK_all, hla2]
    have hcp : (allS la (m + 1)).length = (p.hn + 1) * (allS la m).length := by
      have := congrArg List.length (stK_all la m [])
      rw [hla2, List.length_map, stK_len] at this
      exact this.symm
    rw [hcp] at hcap
    have hnl : ((n : Int) == (p.ln : Int)) = false := by simp; omega
    have hnl2 : (n = p.ln) = False := eq_false (by omega)
    have k1 := Bx.new w 26 #[.int .i64 v.li, .int .i64 v.un, .int .i64 v.tr, .slice p.HA p.hn p.hc, .int .i64 v.le, .slice p.SA p.sn p.sc, .slice p.LA p.ln p.lc]
    have B0 := (Below.refl w.heap.size w).alloc (Nat.le_refl _) (.cells #[.int .i64 v.li, .int .i64 v.un, .int .i64 v.tr, .slice p.HA p.hn p.hc, .int .i64 v.le, .slice p.SA p.sn p.sc, .slice p.LA p.ln p.lc] 26)
    obtain ⟨l0, l1, l2, l3, l4, l5, l6, lf', lz⟩ := k1.seven
    clear ih hpl hla hla2 hcp hp
    go_enter Try.func50, Try.ntmps50
    go_upto_region 3 with fail
    clear l0 l1 l2 l3 l4 l5 l6 lf' lz
    try clear hnl
    try clear hnl2
    obtain ⟨V, hV⟩ : ∃ V, w.alloc (.cells #[.int .i64 v.li, .int .i64 v.un, .int .i64 v.tr, .slice p.HA p.hn p.hc, .int .i64 v.le, .slice p.SA p.sn p.sc, .slice p.LA p.ln p.lc] 26) = V := ⟨_, rfl⟩
    rw [hV] at k1 B0 ⊢
    obtain ⟨b1, hb1⟩ : ∃ b, w.heap.size = b := ⟨_, rfl⟩
    have hb1w : w.heap.size ≤ b1 := by omega
    rw [hb1] at k1 ⊢
    clear hV
    go_wp2_with fail
    go_loopw [5, 6] (fun ov kv wr => ∃ (k : Nat) (VA : Option Addr) (vc : Nat) (vs : List Value), kv = .int .i64 ((k : Int) - 1) ∧ k ≤ p.hn + 1 ∧ ov = .slice VA (stK la m pre k).length vc ∧ wr.ownsRow w.heap.size 27 1 (.slice VA (stK la m pre k).length vc) (stK la m pre k).length vs ∧ LsOwn wr w.heap.size vs (stK la m pre k) ∧ Below w.heap.size w wr ∧ Bx wr b1 26 #[.int .i64 v.li, .int .i64 v.un, .int .i64 v.tr, .slice p.HA p.hn p.hc, .int .i64 v.le, .slice p.SA p.sn p.sc, .slice p.LA p.ln p.lc]) (fun _ kv _ => ((p.hn : Int) - intOf kv).toNat)
    case atStart => exact ⟨0, none, 0, [], rfl, by omega, rfl, World.ownsRow_nil _ _ _ _, .nil _ _, B0, k1⟩
    case round =>
      clear k1 B0
      obtain ⟨k, VA, vc, vs, rfl, hk, rfl, oV, LO, hBr, k1⟩ := hrel
      obtain ⟨l0, l1, l2, l3, l4, l5, l6, lf', lz⟩ := k1.seven
      by_cases hkg : k ≤ p.hn
      · have hkw : IntKind.i64.wrap ((k : Int) - 1 + 1) = (k : Int) := by rw [show (k : Int) - 1 + 1 = k by omega]; exact IntWalk.i64_in _ (by omega)
        have hP2 := own_bel hP hBr
        have hA2 := hA.call hBr
        have hll := stK_len la m pre k
        have hlm : (k + 1) * (allS la m).length ≤ 100000 := Nat.le_trans (Nat.mul_le_mul_right _ (by omega)) hcap
        rw [Nat.succ_mul] at hlm
        have hsub : (allS la m).length ≤ 100000 := by omega
        have hLs := stK_succ la m pre k
        obtain ⟨nv, hnv⟩ : ∃ x, (stK la m pre k).length = x := ⟨_, rfl⟩
        rw [hnv] at oV hll ⊢
        have hBs := hBr.size
        have HNV := Lib.hid (And.intro hnv (And.intro hll hLs))
        have HLO := Lib.hid LO
        have HBR := Lib.hid hBr
        obtain ⟨xp, hxp⟩ : ∃ x, (inr pre).flatten = x := ⟨_, rfl⟩
        rw [hxp] at hP2
        have hxl : xp.length = n * 1 := by rw [← hxp, flat_len _ (inr_one pre)]; simp [inr, HP.out.1]
        have hx1 : ∀ u ∈ xp, u.oneCell' = true := by
          rw [← hxp]
          intro u hu
          obtain ⟨r, hr, hu⟩ := List.mem_flatten.1 hu
          unfold inr at hr
          obtain ⟨x, _, rfl⟩ := List.mem_map.1 hr
          simp at hu
          rw [hu]; rfl
        have HXP := Lib.hid hxp
        have hn6 : n ≤ 6 := by have := HP.out.2; omega
        obtain ⟨kh, hkh⟩ : ∃ x, (k : Int) - 1 = x := ⟨_, rfl⟩
        rw [hkh] at hkw ⊢
        have hkl : kh < p.hn := by omega
        have HKH := Lib.hid hkh
        clear hxp LO hBr hnv hll hLs hkh
        obtain ⟨U, rfl⟩ : ∃ U, U = wr := ⟨_, rfl⟩
        go_wp2_with fail
        clear l0 l1 l2 l3 l4 l5 l6 lf' lz
        refine AnyG.startC (by kernel_rfl) ?_
        refine AnyG.takeP (i := 0) (v := ?_) rfl (by kernel_rfl) (fun _ _ _ h => h) rfl ?_ ?_
        rotate_left
        · (intro w'; go_simp; try with_reducible rfl)
        try simp only [Act.put, List.getElem_toArray, List.getElem_cons_succ, List.getElem_cons_zero, List.setIfInBounds_toArray, List.set_cons_zero, List.set_cons_succ]
        refine AnyG.takeP (i := 3) (v := ?_) rfl (by kernel_rfl) (fun _ _ _ h => h) rfl ?_ ?_
        rotate_left
        · (intro w'; go_simp; try with_reducible rfl)
        try simp only [Act.put, List.getElem_toArray, List.getElem_cons_succ, List.getElem_cons_zero, List.setIfInBounds_toArray, List.set_cons_zero, List.set_cons_succ]
        refine AnyG.takeP (i := 5) (v := ?_) rfl (by kernel_rfl) (fun _ _ _ h => h) rfl ?_ ?_
        rotate_left
        · (intro w'; go_simp; try with_reducible rfl)
        try simp only [Act.put, List.getElem_toArray, List.getElem_cons_succ, List.getElem_cons_zero, List.setIfInBounds_toArray, List.set_cons_zero, List.set_cons_succ]
        refine AnyG.enter (fun w' : World => Below U.heap.size U w') (fun i => i != 9 && i != 10) ?_
        have hS : (fun w' : World => Below U.heap.size U w') (U.drew) := (Below.refl _ _).drew
        try dsimp only at hS
        obtain ⟨y0, hy0⟩ : ∃ y, U.drew = y := ⟨_, rfl⟩
        rw [hy0] at hS ⊢
        clear hy0
        refine AnyG.takeC (i := 1) (v := ?_) rfl (by kernel_rfl) (fun _ _ _ h => h) rfl ?_ hS ?_
        rotate_left
        · (intro w' hSw; (try dsimp only at hSw); obtain ⟨l0, l1, l2, l3, l4, l5, l6, lf2, lz⟩ := (k1.call hSw).seven; go_simp; try with_reducible rfl)
        try simp only [Act.put, List.getElem_toArray, List.getElem_cons_succ, List.getElem_cons_zero, List.setIfInBounds_toArray, List.set_cons_zero, List.set_cons_succ]
        refine AnyG.all (rs := [2, 6]) (by kernel_rfl) (by simp) ?_
        intro ii hii
        simp only [List.mem_cons, List.not_mem_nil, or_false] at hii
        rcases hii with rfl | rfl
        · refine ⟨_, rfl, rfl, ?_⟩
          go_simp
          have o28 := World.ownsRow_made (w := y0) (base := U.heap.size) (e := 3) (size := 1) #[] 0 hS.size (by unfold maxLen; omega) (by simp)
          have hT := hS.alloc hS.size (.cells #[] 3)
          obtain ⟨z2, hy⟩ : ∃ x, y0.alloc (.cells #[] 3) = x := ⟨_, rfl⟩
          rw [hy] at o28 hT ⊢
          obtain ⟨b28, hbq⟩ : ∃ p, y0.heap.size = p := ⟨_, rfl⟩
          rw [hbq] at o28 ⊢
          clear hy hbq
          have hSn := hT
          clear hS
          refine Onward.on hSn (fun hS => ?_)
          try dsimp only at hS
          clear hSn
          try simp only [Act.put, List.getElem_toArray, List.getElem_cons_succ, List.getElem_cons_zero, List.setIfInBounds_toArray, List.set_cons_zero, List.set_cons_succ]
          refine AnyG.all (rs := [4, 6]) (by kernel_rfl) (by simp) ?_
          intro ii hii
          simp only [List.mem_cons, List.not_mem_nil, or_false] at hii
          rcases hii with rfl | rfl
          · refine ⟨_, rfl, rfl, ?_⟩
            have hP4 := own_bel hP2 hS
            refine wp_app3 (.tmp 24) (.tmp 25) 27 rfl U.heap.size 3 i3 _ 1 8 Try.underlying27 hi3 hz3 hs3 iy3 rfl (by decide) (.slice (some ⟨b28, 0, none⟩) 0 0) 0 [] (by simp [Act.eval]) o28 A n c xp (by simp [Act.eval]) hxl (own_cells hP4) hx1 (by unfold maxLen; omega) (by omega) hS.size ?_
            intro v30 z4 o30 g4 x4 r4
            rw [Nat.zero_add, List.nil_append] at o30
            obtain ⟨A30, c30, rfl⟩ := own_shape o30
            have hSn := hS.grown g4 hS.size (fun q e => (o28.lt q e).1)
            clear hS
            refine Onward.on hSn (fun hS => ?_)
            try dsimp only at hS
            clear hSn
            try simp only [Act.put, List.getElem_toArray, List.getElem_cons_succ, List.getElem_cons_zero, List.setIfInBounds_toArray, List.set_cons_zero, List.set_cons_succ]
            refine AnyG.one (i := 6) (by kernel_rfl) rfl rfl ?_
            go_simp
            have k32 := Bx.new z4 3 #[.int .i64 kh]
            replace o30 := o30.alloc (.cells #[.int .i64 kh] 3)
            have hT := hS.alloc hS.size (.cells #[.int .i64 kh] 3)
            obtain ⟨z6, hy⟩ : ∃ x, z4.alloc (.cells #[.int .i64 kh] 3) = x := ⟨_, rfl⟩
            rw [hy] at o30 k32 hT ⊢
            obtain ⟨b32, hbq⟩ : ∃ p, z4.heap.size = p := ⟨_, rfl⟩
            rw [hbq] at k32 ⊢
            clear hy hbq
            have hSn := hT
            clear hS
            refine Onward.on hSn (fun hS => ?_)
            try dsimp only at hS
            clear hSn
            try simp only [Act.put, List.getElem_toArray, List.getElem_cons_succ, List.getElem_cons_zero, List.setIfInBounds_toArray, List.set_cons_zero, List.set_cons_succ]
            refine AnyG.one (i := 7) (by kernel_rfl) rfl rfl ?_
            refine wp_app3 (.tmp 26) (.tmp 28) 27 rfl U.heap.size 3 i3 _ 1 8 Try.underlying27 hi3 hz3 hs3 iy3 rfl (by decide) (.slice A30 n c30) n xp (by simp [Act.eval]) o30 (some ⟨b32, 0, none⟩) 1 1 [.int .i64 kh] (by simp [Act.eval]) rfl (fun j u hu => ⟨_, rfl, bx_news k32 j u hu⟩) (by simp [Value.oneCell']) (by unfold maxLen; omega) (by omega) hS.size ?_
            intro v33 z7 o33 g7 x7 r7
            obtain ⟨A33, c33, rfl⟩ := own_shape o33
            rw [← HXP.out, ← inr_snoc] at o33
            have hSn := hS.grown g7 hS.size (fun q e => (o30.lt q e).1)
            clear hS
            refine Onward.on hSn (fun hS => ?_)
            try dsimp only at hS
            clear hSn
            try simp only [Act.put, List.getElem_toArray, List.getElem_cons_succ, List.getElem_cons_zero, List.setIfInBounds_toArray, List.set_cons_zero, List.set_cons_succ]
            refine AnyG.one (i := 8) (by kernel_rfl) rfl rfl ?_
            go_simp
            have o33b := ownsRow_up (b' := U.heap.size) o33 (fun q e => (o33.lt q e).1)
            have IHx := IH.out (n + 1) (pre ++ [kh]) A33 c33 U.heap.size _ (by have := HP.out.2; omega) (by rw [List.length_append, HP.out.1]; rfl) (hA2.call hS) o33 hS.size (by rw [HLA.out]; exact hsub)
            rw [HLA.out] at IHx
            refine IHx.mono ?_
            rintro e8 z8 ⟨RA, rc, vs2, rfl, oR, LR, hb8⟩
            rw [pre_snoc7, List.length_map] at oR
            rw [pre_snoc7] at LR
            rw [List.length_map]
            have hSn := hS.trans (hb8.mono hS.size)
            clear hS
            refine Onward.on hSn (fun hS => ?_)
            try dsimp only at hS
            clear hSn
            try simp only [Act.put, List.getElem_toArray, List.getElem_cons_succ, List.getElem_cons_zero, List.setIfInBounds_toArray, List.set_cons_zero, List.set_cons_succ]
            refine AnyG.one (i := 9) (by kernel_rfl) rfl rfl ?_
            have oV9 := own_bel oV hS
            have LO9 := HLO.out.bel hS
            have k9 := k1.call hS
            have hz8 := hS.size
            refine wp_app3 (.tmp 22) (.tmp 30) 38 rfl w.heap.size 27 i27 _ 1 24 Try.underlying38 hi27 hz27 hs27 iy27 rfl (by decide) (.slice VA nv vc) nv vs (by simp [Act.eval]) oV9 RA (allS la m).length rc vs2 (by simp [Act.eval]) (by have := oR.1; exact this) (own_cells oR) LR.one (by unfold maxLen; have := HNV.out.2.1; omega) (by have := HNV.out.2.1; omega) (by omega) ?_
            intro v35 z9 o35 g9 x9 r9
            obtain ⟨A35, c35, rfl⟩ := own_shape o35
            have hSn := hS
            refine Onward.last rfl ?_
            try simp only [Act.put, List.getElem_toArray, List.getElem_cons_succ, List.getElem_cons_zero, List.setIfInBounds_toArray, List.set_cons_zero, List.set_cons_succ]
            refine AnyG.one (i := 10) (by kernel_rfl) rfl rfl ?_
            go_simp
            refine Onward.last rfl ?_
            try simp only [Act.put, List.getElem_toArray, List.getElem_cons_succ, List.getElem_cons_zero, List.setIfInBounds_toArray, List.set_cons_zero, List.set_cons_succ]
            refine AnyG.done (by kernel_rfl) ?_ _
            go_simp
            go_wp2_with fail
            go_roundw
            case rel =>
              have hLs := HNV.out.2.2
              have hlen : (stK la m pre (k + 1)).length = nv + (allS la m).length := by rw [hLs, List.length_append, List.length_map, HNV.out.1]
              rw [HKH.out] at hLs
              have L1 := (LO9.own oV9 g9 (by decide)).append ((LR.own oV9 g9 (by decide)).up hBs)
              rw [← hLs] at L1
              refine ⟨k + 1, A35, c35, vs ++ vs2, by rw [show (((k + 1 : Nat) : Int) - 1) = (k : Int) by omega], by omega, by rw [hlen], by rw [hlen]; exact o35, L1, ?_, k9.grown g9 (own_bx oV9 k9 (by decide))⟩
              have hB9 := HBR.out.trans (hS.mono hBs)
              exact hB9.grown g9 hB9.size (fun q e => (oV9.lt q e).1)
            case measure => have := HKH.out; simp [intOf]; omega
          · refine ⟨_, rfl, rfl, ?_⟩
            go_simp
            have k32 := Bx.new z2 3 #[.int .i64 kh]
            have a28 : some z2.heap.size ≠ (Value.slice (some ⟨b28, 0, none⟩) 0 0).ownBlock := fun h => by have := (o28.lt b28 rfl).2; simp [Value.ownBlock] at h; omega
            replace o28 := o28.alloc (.cells #[.int .i64 kh] 3)
            have hT := hS.alloc hS.size (.cells #[.int .i64 kh] 3)
            obtain ⟨z6, hy⟩ : ∃ x, z2.alloc (.cells #[.int .i64 kh] 3) = x := ⟨_, rfl⟩
            rw [hy] at o28 k32 hT ⊢
            obtain ⟨b32, hbq⟩ : ∃ p, z2.heap.size = p := ⟨_, rfl⟩
            rw [hbq] at k32 a28 ⊢
            clear hy hbq
            have hSn := hT
            clear hS
            refine Onward.on hSn (fun hS => ?_)
            try dsimp only at hS
            clear hSn
            try simp only [Act.put, List.getElem_toArray, List.getElem_cons_succ, List.getElem_cons_zero, List.setIfInBounds_toArray, List.set_cons_zero, List.set_cons_succ]
            refine AnyG.one (i := 4) (by kernel_rfl) rfl rfl ?_
            have hP4 := own_bel hP2 hS
            refine wp_app3 (.tmp 24) (.tmp 25) 27 rfl U.heap.size 3 i3 _ 1 8 Try.underlying27 hi3 hz3 hs3 iy3 rfl (by decide) (.slice (some ⟨b28, 0, none⟩) 0 0) 0 [] (by simp [Act.eval]) o28 A n c xp (by simp [Act.eval]) hxl (own_cells hP4) hx1 (by unfold maxLen; omega) (by omega) hS.size ?_
            intro v30 z4 o30 g4 x4 r4
            rw [Nat.zero_add, List.nil_append] at o30
            obtain ⟨A30, c30, rfl⟩ := own_shape o30
            replace k32 := k32.grown g4 a28
            have hSn := hS.grown g4 hS.size (fun q e => (o28.lt q e).1)
            clear hS
            refine Onward.on hSn (fun hS => ?_)
            try dsimp only at hS
            clear hSn
            try simp only [Act.put, List.getElem_toArray, List.getElem_cons_succ, List.getElem_cons_zero, List.setIfInBounds_toArray, List.set_cons_zero, List.set_cons_succ]
            refine AnyG.one (i := 7) (by kernel_rfl) rfl rfl ?_
            refine wp_app3 (.tmp 26) (.tmp 28) 27 rfl U.heap.size 3 i3 _ 1 8 Try.underlying27 hi3 hz3 hs3 iy3 rfl (by decide) (.slice A30 n c30) n xp (by simp [Act.eval]) o30 (some ⟨b32, 0, none⟩) 1 1 [.int .i64 kh] (by simp [Act.eval]) rfl (fun j u hu => ⟨_, rfl, bx_news k32 j u hu⟩) (by simp [Value.oneCell']) (by unfold maxLen; omega) (by omega) hS.size ?_
            intro v33 z7 o33 g7 x7 r7
            obtain ⟨A33, c33, rfl⟩ := own_shape o33
            rw [← HXP.out, ← inr_snoc] at o33
            have hSn := hS.grown g7 hS.size (fun q e => (o30.lt q e).1)
            clear hS
            refine Onward.on hSn (fun hS => ?_)
            try dsimp only at hS
            clear hSn
            try simp only [Act.put, List.getElem_toArray, List.getElem_cons_succ, List.getElem_cons_zero, List.setIfInBounds_toArray, List.set_cons_zero, List.set_cons_succ]
            refine AnyG.one (i := 8) (by kernel_rfl) rfl rfl ?_
            go_simp
            have o33b := ownsRow_up (b' := U.heap.size) o33 (fun q e => (o33.lt q e).1)
            have IHx := IH.out (n + 1) (pre ++ [kh]) A33 c33 U.heap.size _ (by have := HP.out.2; omega) (by rw [List.length_append, HP.out.1]; rfl) (hA2.call hS) o33 hS.size (by rw [HLA.out]; exact hsub)
            rw [HLA.out] at IHx
            refine IHx.mono ?_
            rintro e8 z8 ⟨RA, rc, vs2, rfl, oR, LR, hb8⟩
            rw [pre_snoc7, List.length_map] at oR
            rw [pre_snoc7] at LR
            rw [List.length_map]
            have hSn := hS.trans (hb8.mono hS.size)
            clear hS
            refine Onward.on hSn (fun hS => ?_)
            try dsimp only at hS
            clear hSn
            try simp only [Act.put, List.getElem_toArray, List.getElem_cons_succ, List.getElem_cons_zero, List.setIfInBounds_toArray, List.set_cons_zero, List.set_cons_succ]
            refine AnyG.one (i := 9) (by kernel_rfl) rfl rfl ?_
            have oV9 := own_bel oV hS
            have LO9 := HLO.out.bel hS
            have k9 := k1.call hS
            have hz8 := hS.size
            refine wp_app3 (.tmp 22) (.tmp 30) 38 rfl w.heap.size 27 i27 _ 1 24 Try.underlying38 hi27 hz27 hs27 iy27 rfl (by decide) (.slice VA nv vc) nv vs (by simp [Act.eval]) oV9 RA (allS la m).length rc vs2 (by simp [Act.eval]) (by have := oR.1; exact this) (own_cells oR) LR.one (by unfold maxLen; have := HNV.out.2.1; omega) (by have := HNV.out.2.1; omega) (by omega) ?_
            intro v35 z9 o35 g9 x9 r9
            obtain ⟨A35, c35, rfl⟩ := own_shape o35
            have hSn := hS
            refine Onward.last rfl ?_
            try simp only [Act.put, List.getElem_toArray, List.getElem_cons_succ, List.getElem_cons_zero, List.setIfInBounds_toArray, List.set_cons_zero, List.set_cons_succ]
            refine AnyG.one (i := 10) (by kernel_rfl) rfl rfl ?_
            go_simp
            refine Onward.last rfl ?_
            try simp only [Act.put, List.getElem_toArray, List.getElem_cons_succ, List.getElem_cons_zero, List.setIfInBounds_toArray, List.set_cons_zero, List.set_cons_succ]
            refine AnyG.done (by kernel_rfl) ?_ _
            go_simp
            go_wp2_with fail
            go_roundw
            case rel =>
              have hLs := HNV.out.2.2
              have hlen : (stK la m pre (k + 1)).length = nv + (allS la m).length := by rw [hLs, List.length_append, List.length_map, HNV.out.1]
              rw [HKH.out] at hLs
              have L1 := (LO9.own oV9 g9 (by decide)).append ((LR.own oV9 g9 (by decide)).up hBs)
              rw [← hLs] at L1
              refine ⟨k + 1, A35, c35, vs ++ vs2, by rw [show (((k + 1 : Nat) : Int) - 1) = (k : Int) by omega], by omega, by rw [hlen], by rw [hlen]; exact o35, L1, ?_, k9.grown g9 (own_bx oV9 k9 (by decide))⟩
              have hB9 := HBR.out.trans (hS.mono hBs)
              exact hB9.grown g9 hB9.size (fun q e => (oV9.lt q e).1)
            case measure => have := HKH.out; simp [intOf]; omega
        · refine ⟨_, rfl, rfl, ?_⟩
          go_simp
          have k32 := Bx.new y0 3 #[.int .i64 kh]
          have hT := hS.alloc hS.size (.cells #[.int .i64 kh] 3)
          obtain ⟨z6, hy⟩ : ∃ x, y0.alloc (.cells #[.int .i64 kh] 3) = x := ⟨_, rfl⟩
          rw [hy] at k32 hT ⊢
          obtain ⟨b32, hbq⟩ : ∃ p, y0.heap.size = p := ⟨_, rfl⟩
          rw [hbq] at k32 ⊢
          clear hy hbq
          have hSn := hT
          clear hS
          refine Onward.on hSn (fun hS => ?_)
          try dsimp only at hS
          clear hSn
          try simp only [Act.put, List.getElem_toArray, List.getElem_cons_succ, List.getElem_cons_zero, List.setIfInBounds_toArray, List.set_cons_zero, List.set_cons_succ]
          refine AnyG.one (i := 2) (by kernel_rfl) rfl rfl ?_
          go_simp
          have o28 := World.ownsRow_made (w := z6) (base := U.heap.size) (e := 3) (size := 1) #[] 0 hS.size (by unfold maxLen; omega) (by simp)
          have a28 : some b32 ≠ (Value.slice (some ⟨z6.heap.size, 0, none⟩) 0 0).ownBlock := fun h => by have := k32.lt; simp [Value.ownBlock] at h; omega
          replace k32 := k32.alloc (.cells #[] 3)
          have hT := hS.alloc hS.size (.cells #[] 3)
          obtain ⟨z2, hy⟩ : ∃ x, z6.alloc (.cells #[] 3) = x := ⟨_, rfl⟩
          rw [hy] at k32 o28 hT ⊢
          obtain ⟨b28, hbq⟩ : ∃ p, z6.heap.size = p := ⟨_, rfl⟩
          rw [hbq] at o28 a28 ⊢
          clear hy hbq
          have hSn := hT
          clear hS
          refine Onward.on hSn (fun hS => ?_)
          try dsimp only at hS
          clear hSn
          try simp only [Act.put, List.getElem_toArray, List.getElem_cons_succ, List.getElem_cons_zero, List.setIfInBounds_toArray, List.set_cons_zero, List.set_cons_succ]
          refine AnyG.one (i := 4) (by kernel_rfl) rfl rfl ?_
          have hP4 := own_bel hP2 hS
          refine wp_app3 (.tmp 24) (.tmp 25) 27 rfl U.heap.size 3 i3 _ 1 8 Try.underlying27 hi3 hz3 hs3 iy3 rfl (by decide) (.slice (some ⟨b28, 0, none⟩) 0 0) 0 [] (by simp [Act.eval]) o28 A n c xp (by simp [Act.eval]) hxl (own_cells hP4) hx1 (by unfold maxLen; omega) (by omega) hS.size ?_
          intro v30 z4 o30 g4 x4 r4
          rw [Nat.zero_add, List.nil_append] at o30
          obtain ⟨A30, c30, rfl⟩ := own_shape o30
          replace k32 := k32.grown g4 a28
          have hSn := hS.grown g4 hS.size (fun q e => (o28.lt q e).1)
          clear hS
          refine Onward.on hSn (fun hS => ?_)
          try dsimp only at hS
          clear hSn
          try simp only [Act.put, List.getElem_toArray, List.getElem_cons_succ, List.getElem_cons_zero, List.setIfInBounds_toArray, List.set_cons_zero, List.set_cons_succ]
          refine AnyG.one (i := 7) (by kernel_rfl) rfl rfl ?_
          refine wp_app3 (.tmp 26) (.tmp 28) 27 rfl U.heap.size 3 i3 _ 1 8 Try.underlying27 hi3 hz3 hs3 iy3 rfl (by decide) (.slice A30 n c30) n xp (by simp [Act.eval]) o30 (some ⟨b32, 0, none⟩) 1 1 [.int .i64 kh] (by simp [Act.eval]) rfl (fun j u hu => ⟨_, rfl, bx_news k32 j u hu⟩) (by simp [Value.oneCell']) (by unfold maxLen; omega) (by omega) hS.size ?_
          intro v33 z7 o33 g7 x7 r7
          obtain ⟨A33, c33, rfl⟩ := own_shape o33
          rw [← HXP.out, ← inr_snoc] at o33
          have hSn := hS.grown g7 hS.size (fun q e => (o30.lt q e).1)
          clear hS
          refine Onward.on hSn (fun hS => ?_)
          try dsimp only at hS
          clear hSn
          try simp only [Act.put, List.getElem_toArray, List.getElem_cons_succ, List.getElem_cons_zero, List.setIfInBounds_toArray, List.set_cons_zero, List.set_cons_succ]
          refine AnyG.one (i := 8) (by kernel_rfl) rfl rfl ?_
          go_simp
          have o33b := ownsRow_up (b' := U.heap.size) o33 (fun q e => (o33.lt q e).1)
          have IHx := IH.out (n + 1) (pre ++ [kh]) A33 c33 U.heap.size _ (by have := HP.out.2; omega) (by rw [List.length_append, HP.out.1]; rfl) (hA2.call hS) o33 hS.size (by rw [HLA.out]; exact hsub)
          rw [HLA.out] at IHx
          refine IHx.mono ?_
          rintro e8 z8 ⟨RA, rc, vs2, rfl, oR, LR, hb8⟩
          rw [pre_snoc7, List.length_map] at oR
          rw [pre_snoc7] at LR
          rw [List.length_map]
          have hSn := hS.trans (hb8.mono hS.size)
          clear hS
          refine Onward.on hSn (fun hS => ?_)
          try dsimp only at hS
          clear hSn
          try simp only [Act.put, List.getElem_toArray, List.getElem_cons_succ, List.getElem_cons_zero, List.setIfInBounds_toArray, List.set_cons_zero, List.set_cons_succ]
          refine AnyG.one (i := 9) (by kernel_rfl) rfl rfl ?_
          have oV9 := own_bel oV hS
          have LO9 := HLO.out.bel hS
          have k9 := k1.call hS
          have hz8 := hS.size
          refine wp_app3 (.tmp 22) (.tmp 30) 38 rfl w.heap.size 27 i27 _ 1 24 Try.underlying38 hi27 hz27 hs27 iy27 rfl (by decide) (.slice VA nv vc) nv vs (by simp [Act.eval]) oV9 RA (allS la m).length rc vs2 (by simp [Act.eval]) (by have := oR.1; exact this) (own_cells oR) LR.one (by unfold maxLen; have := HNV.out.2.1; omega) (by have := HNV.out.2.1; omega) (by omega) ?_
          intro v35 z9 o35 g9 x9 r9
          obtain ⟨A35, c35, rfl⟩ := own_shape o35
          have hSn := hS
          refine Onward.last rfl ?_
          try simp only [Act.put, List.getElem_toArray, List.getElem_cons_succ, List.getElem_cons_zero, List.setIfInBounds_toArray, List.set_cons_zero, List.set_cons_succ]
          refine AnyG.one (i := 10) (by kernel_rfl) rfl rfl ?_
          go_simp
          refine Onward.last rfl ?_
          try simp only [Act.put, List.getElem_toArray, List.getElem_cons_succ, List.getElem_cons_zero, List.setIfInBounds_toArray, List.set_cons_zero, List.set_cons_succ]
          refine AnyG.done (by kernel_rfl) ?_ _
          go_simp
          go_wp2_with fail
          go_roundw
          case rel =>
            have hLs := HNV.out.2.2
            have hlen : (stK la m pre (k + 1)).length = nv + (allS la m).length := by rw [hLs, List.length_append, List.length_map, HNV.out.1]
            rw [HKH.out] at hLs
            have L1 := (LO9.own oV9 g9 (by decide)).append ((LR.own oV9 g9 (by decide)).up hBs)
            rw [← hLs] at L1
            refine ⟨k + 1, A35, c35, vs ++ vs2, by rw [show (((k + 1 : Nat) : Int) - 1) = (k : Int) by omega], by omega, by rw [hlen], by rw [hlen]; exact o35, L1, ?_, k9.grown g9 (own_bx oV9 k9 (by decide))⟩
            have hB9 := HBR.out.trans (hS.mono hBs)
            exact hB9.grown g9 hB9.size (fun q e => (oV9.lt q e).1)
          case measure => have := HKH.out; simp [intOf]; omega
      · obtain rfl : k = p.hn + 1 := by omega
        have hke : (((p.hn + 1 : Nat) : Int) - 1) = (p.hn : Int) := by omega
        rw [hke]
        clear hke
        obtain ⟨N, hN⟩ : ∃ x, (stK la m pre (p.hn + 1)).length = x := ⟨_, rfl⟩
        have HN := Lib.hid hN
        rw [hN] at oV ⊢
        clear hN
        go_wp2_with fail
        go_ret
        have hN := HN.out
        subst hN
        exact ⟨VA, vc, vs, rfl, oV, LO.up hBw, hBr⟩
end Go.Proofs.Ytfcpjkofbejleaa
