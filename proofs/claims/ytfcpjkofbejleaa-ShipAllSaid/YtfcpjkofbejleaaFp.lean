/- sailed 39. -/
import Derived.Test.YtfcpjkofbejleaaSltM
set_option linter.unusedSimpArgs false
set_option linter.unusedVariables false
namespace Go.Proofs.Ytfcpjkofbejleaa
open Go Go.RowKit
set_option maxRecDepth 100000 in
set_option maxHeartbeats 8000000 in
theorem sailed_any (v : Vg) (p : Vp) (x : Tru) (s : List Int) (SA : Option Addr) (sn sc : Nat) (TA : Option Addr) (tn tc : Nat) (WA : Option Addr) (wn wc : Nat) (DA : Option Addr) (dn dc : Nat) (w : World) (hst : StOk v s) (hx : TruOk v x) (ht : x.ts.length = tn) (hw : x.ws.length = wn) (hd : x.ds.length = dn) (hs : s.length = sn) (hV : VoyAt w w.heap.size v p) (hF : FacAt w w.heap.size x TA WA DA) (hS0 : Sl w w.heap.size 1 SA (inr s)) :
    Calls Try.prog 39 #[.agg #[.slice TA tn tc, .slice WA wn wc, .slice DA dn dc], .agg (vcs v p), .slice SA sn sc] w fun e w' => (∃ X c, e = .returned (.tuple #[.int .i64 (trB v x s), .int .i64 (trT v x s), .slice X (salT v x s).length c]) ∧ w'.ownsRow w.heap.size 3 1 (.slice X (salT v x s).length c) (salT v x s).length (inr (salT v x s)).flatten) ∧ Below w.heap.size w w' := by
  have ho := hst.ok
  have hli := ho.li
  have hun := ho.un
  have hle := ho.le
  have hsn6 : sn ≤ 6 := by rw [← hs, hst.len]; exact ho.l6
  have hsn4 : p.sn ≤ 4 := by rw [← hV.sl]; exact ho.s4
  have htn : sn ≤ tn := by rw [← ht, ← hs, hx.tl, hst.len]; exact Nat.le_refl _
  have hwn : p.sn ≤ wn := by rw [← hw, ← hV.sl, hx.wl]; exact Nat.le_refl _
  have HPL := Lib.hid hV.hl
  have B0 := ((Below.refl w.heap.size w).alloc (Nat.le_refl _) (.cells #[.slice TA tn tc, .slice WA wn wc, .slice DA dn dc] 62)).alloc (by simp) (.cells (vcs v p) 26)
  have k1 := (Bx.new w 62 #[.slice TA tn tc, .slice WA wn wc, .slice DA dn dc]).alloc (.cells (vcs v p) 26)
  have k2 := Bx.at (w.alloc (.cells #[.slice TA tn tc, .slice WA wn wc, .slice DA dn dc] 62)) 26 (vcs v p) (n := w.heap.size + 1) (by simp)
  have V2 := hV.call B0
  have F2 := hF.call B0
  have S2 := (hS0.below B0).more B0.size
  rw [vcs_def] at k1 k2 B0 V2 F2 S2 ⊢
  obtain ⟨V, hVV⟩ : ∃ V, (w.alloc (.cells #[.slice TA tn tc, .slice WA wn wc, .slice DA dn dc] 62)).alloc (.cells #[.int .i64 v.li, .int .i64 v.un, .int .i64 v.tr, .slice p.HA p.hn p.hc, .int .i64 v.le, .slice p.SA p.sn p.sc, .slice p.LA p.ln p.lc] 26) = V := ⟨_, rfl⟩
  rw [hVV] at k1 k2 B0 V2 F2 S2
  have HVV := Lib.hid hVV
  have K1 := k1
  have K2 := k2
  have HT := Lib.hid ht
  have HW := Lib.hid hw
  have HD := Lib.hid hd
  have HS := Lib.hid hs
  have HX := Lib.hid hx
  have HST := Lib.hid hst
  have HO := Lib.hid ho
  obtain ⟨i3, hi3, hz3, hs3, iy3⟩ := info_parts info3'
  have wli : IntKind.i64.wrap (1000 * v.li) = 1000 * v.li := IntWalk.i64_in _ (by omega)
  have wun : IntKind.i64.wrap (1000 * v.un) = 1000 * v.un := IntWalk.i64_in _ (by omega)
  obtain ⟨Z, hZ⟩ : ∃ Z, x.ts.zip s = Z := ⟨_, rfl⟩
  have HZ := Lib.hid hZ
  have hzl : Z.length = sn := by rw [← hZ]; simp; omega
  have HZL := Lib.hid hzl
  have hb0 : trB v x s = 1000 * v.li + trS (fun n h => n * h.bw) v.hs Z := by rw [← hZ]; rfl
  have ht0 : trT v x s = 1000 * v.li + trS (fun n h => n * h.st) v.hs Z := by rw [← hZ]; rfl
  have hpart := fun {k : Nat} (hk : k ≤ 6) => tru_part hst hx hk
  rw [hZ] at hpart
  have HP := Lib.hid (show ∀ k : Nat, k ≤ 6 → _ from fun k hk => hpart hk)
  have hsal : salT v x s = sal (slT (max (trB v x s) (trT v x s) + 1000 * v.un) (truS v x)) v.le := rfl
  obtain ⟨RR, hRR⟩ : ∃ R, salT v x s = R := ⟨_, rfl⟩
  rw [hRR] at hsal ⊢
  obtain ⟨bw, hbw⟩ : ∃ b, trB v x s = b := ⟨_, rfl⟩
  obtain ⟨st, hst0⟩ : ∃ b, trT v x s = b := ⟨_, rfl⟩
  rw [hbw, hst0] at hsal
  rw [hbw] at hb0
  rw [hst0] at ht0
  rw [hbw, hst0]
  have HB := Lib.hid hb0
  have HTT := Lib.hid ht0
  have HSAL := Lib.hid hsal
  have HSS := Lib.hid V2.sl
  clear hVV k1 k2 hV hF hS0 ht hw hd hs hx hst ho hZ hzl hb0 ht0 hsal hRR hbw hst0 hpart
  go_enter Try.func39, Try.ntmps39
  go_upto_region 1 with fail
  rw [HVV.out]
  refine AnyG.startC (by kernel_rfl) ?_
  refine AnyG.takeP (i := 0) (v := ?_) rfl (by kernel_rfl) (fun _ _ _ h => h) rfl ?_ ?_
  rotate_left
  · (intro w'; go_simp; try with_reducible rfl)
  try simp only [Act.put, List.getElem_toArray, List.getElem_cons_succ, List.getElem_cons_zero, List.setIfInBounds_toArray, List.set_cons_zero, List.set_cons_succ]
  refine AnyG.takeP (i := 3) (v := ?_) rfl (by kernel_rfl) (fun _ _ _ h => h) rfl ?_ ?_
  rotate_left
  · (intro w'; go_simp; try with_reducible rfl)
  try simp only [Act.put, List.getElem_toArray, List.getElem_cons_succ, List.getElem_cons_zero, List.setIfInBounds_toArray, List.set_cons_zero, List.set_cons_succ]
  refine AnyG.enter (fun w' : World => Bx w' w.heap.size 62 #[.slice TA tn tc, .slice WA wn wc, .slice DA dn dc] ∧ Bx w' (w.heap.size + 1) 26 #[.int .i64 v.li, .int .i64 v.un, .int .i64 v.tr, .slice p.HA p.hn p.hc, .int .i64 v.le, .slice p.SA p.sn p.sc, .slice p.LA p.ln p.lc] ∧ Below V.heap.size V w') (fun i => true) ?_
  have hS : (fun w' : World => Bx w' w.heap.size 62 #[.slice TA tn tc, .slice WA wn wc, .slice DA dn dc] ∧ Bx w' (w.heap.size + 1) 26 #[.int .i64 v.li, .int .i64 v.un, .int .i64 v.tr, .slice p.HA p.hn p.hc, .int .i64 v.le, .slice p.SA p.sn p.sc, .slice p.LA p.ln p.lc] ∧ Below V.heap.size V w') (World.drew _) := ⟨K1.drew, K2.drew, (Below.refl _ _).drew⟩
  refine AnyG.takeC (i := 1) (v := ?_) rfl (by kernel_rfl) (fun _ _ _ h => h) rfl ?_ hS ?_
  rotate_left
  · (intro w' hSw; (try dsimp only at hSw); obtain ⟨x0, x1, x2, x3, x4, x5, x6, xf, xz⟩ := hSw.2.1.seven; go_simp; try with_reducible rfl)
  try simp only [Act.put, List.getElem_toArray, List.getElem_cons_succ, List.getElem_cons_zero, List.setIfInBounds_toArray, List.set_cons_zero, List.set_cons_succ]
  refine AnyG.takeC (i := 2) (v := ?_) rfl (by kernel_rfl) (fun _ _ _ h => h) rfl ?_ hS ?_
  rotate_left
  · (intro w' hSw; (try dsimp only at hSw); go_simp; try with_reducible rfl)
  try simp only [Act.put, List.getElem_toArray, List.getElem_cons_succ, List.getElem_cons_zero, List.setIfInBounds_toArray, List.set_cons_zero, List.set_cons_succ]
  refine AnyG.takeC (i := 4) (v := ?_) rfl (by kernel_rfl) (fun _ _ _ h => h) rfl ?_ hS ?_
  rotate_left
  · (intro w' hSw; (try dsimp only at hSw); obtain ⟨x0, x1, x2, x3, x4, x5, x6, xf, xz⟩ := hSw.2.1.seven; go_simp; try with_reducible rfl)
  try simp only [Act.put, List.getElem_toArray, List.getElem_cons_succ, List.getElem_cons_zero, List.setIfInBounds_toArray, List.set_cons_zero, List.set_cons_succ]
  refine AnyG.takeC (i := 5) (v := ?_) rfl (by kernel_rfl) (fun _ _ _ h => h) rfl ?_ hS ?_
  rotate_left
  · (intro w' hSw; (try dsimp only at hSw); go_simp; try with_reducible rfl)
  try simp only [Act.put, List.getElem_toArray, List.getElem_cons_succ, List.getElem_cons_zero, List.setIfInBounds_toArray, List.set_cons_zero, List.set_cons_succ]
  refine AnyG.one (i := 6) (by kernel_rfl) rfl rfl ?_
  go_simp
  refine Onward.on hS (fun hS2 => ?_)
  clear hS
  have hS := hS2
  clear hS2
  try simp only [Act.put, List.getElem_toArray, List.getElem_cons_succ, List.getElem_cons_zero, List.setIfInBounds_toArray, List.set_cons_zero, List.set_cons_succ]
  refine AnyG.one (i := 7) (by kernel_rfl) rfl rfl ?_
  go_simp
  refine Onward.on hS (fun hS2 => ?_)
  clear hS
  have hS := hS2
  clear hS2
  try simp only [Act.put, List.getElem_toArray, List.getElem_cons_succ, List.getElem_cons_zero, List.setIfInBounds_toArray, List.set_cons_zero, List.set_cons_succ]
  refine AnyG.done (by kernel_rfl) ?_ _
  have K1' := hS.1
  have K2' := hS.2.1
  have hBd : Below V.heap.size V V.drew := hS.2.2
  clear hS
  go_simp
  go_wp2_with fail
  go_loopw [9, 10, 11] (fun bv sv kv wr => ∃ (k : Nat), kv = .int .i64 k ∧ k ≤ sn ∧ bv = .int .i64 (1000 * v.li + trS (fun n h => n * h.bw) v.hs (Z.take k)) ∧ sv = .int .i64 (1000 * v.li + trS (fun n h => n * h.st) v.hs (Z.take k)) ∧ Below V.heap.size V wr) (fun _ _ kv _ => sn - (intOf kv).toNat)
  case atStart => exact ⟨0, rfl, by omega, by simp [trS], by simp [trS], hBd⟩
  case round =>
    clear K1' K2' hBd
    obtain ⟨k, rfl, hk, rfl, rfl, hB⟩ := hrel
    have k1r := K1.call hB
    have k2r := K2.call hB
    by_cases hkn : k < sn
    · have hka : k < x.ts.length := by rw [HT.out]; omega
      have hktn : k < tn := by omega
      have hkb : k < s.length := by rw [HS.out]; exact hkn
      have hkz : k < Z.length := by rw [HZL.out]; exact hkn
      have hze : Z[k] = (x.ts[k], s[k]) := by
        have : ∀ (Y : List (Int × Int)) (e : x.ts.zip s = Y) (h : k < Y.length), Y[k] = (x.ts[k], s[k]) := fun Y e h => by subst e; simp
        exact this Z HZ.out hkz
      have hT1 := trS_take (fun n h => n * h.bw) v.hs Z hkz
      have hT2 := trS_take (fun n h => n * h.st) v.hs Z hkz
      rw [hze] at hT1 hT2
      obtain ⟨ad, rfl, hadb, t0⟩ := inr_at (F2.call hB).ts hka
      obtain ⟨sd, rfl, hsdb, s0⟩ := inr_at ((S2.below hB).more hB.size) hkb
      have hin := HST.out.inh s[k] (List.getElem_mem hkb)
      have htk := tru_t HO.out HX.out (List.getElem_mem hka)
      have hP1 := HP.out k (by omega)
      have hP2 := HP.out (k + 1) (by omega)
      generalize x.ts[k] = n at *
      generalize s[k] = h at *
      dsimp only at hT1 hT2
      have hkw : IntKind.i64.wrap ((k : Int) + 1) = (k : Int) + 1 := IntWalk.i64_in _ (by omega)
      by_cases h0n : 0 ≤ h
      · rw [if_pos h0n] at hT1 hT2
        rw [hT1, hT2] at hP2
        obtain ⟨j, rfl⟩ : ∃ j : Nat, h = j := ⟨h.toNat, by omega⟩
        have hj : j < v.hs.length := by omega
        have hjp : j < p.hn := by rw [← HPL.out]; exact hj
        obtain ⟨hda, hHA, hhb, h0, h1, h2⟩ := hd_at (V2.call hB).hs hj
        have hhe : hd v.hs (j : Int) = v.hs[j] := by unfold hd; rw [Int.toNat_natCast, List.getElem?_eq_getElem hj]; rfl
        have hho := HO.out.hs _ (List.getElem_mem hj)
        rw [hhe] at hT1 hT2 hP2
        generalize v.hs[j] = H at *
        have hm1 := mul_bd5 htk hho.bw
        have hm2 := mul_bd5 htk hho.st
        have w1 : IntKind.i64.wrap (n * H.bw) = n * H.bw := IntWalk.i64_in _ (by omega)
        have w2 : IntKind.i64.wrap (n * H.st) = n * H.st := IntWalk.i64_in _ (by omega)
        generalize trS (fun n h => n * h.bw) v.hs (Z.take k) = b1 at *
        generalize trS (fun n h => n * h.st) v.hs (Z.take k) = b2 at *
        have w3 : IntKind.i64.wrap (1000 * v.li + b1 + n * H.bw) = 1000 * v.li + b1 + n * H.bw := IntWalk.i64_in _ (by omega)
        have w4 : IntKind.i64.wrap (1000 * v.li + b2 + n * H.st) = 1000 * v.li + b2 + n * H.st := IntWalk.i64_in _ (by omega)
        have HT1 := Lib.hid hT1
        have HT2 := Lib.hid hT2
        rw [hHA] at k2r
        clear hHA
        clear hT1 hT2 hze hhe hP1 hP2 hka hkb hkz
        obtain ⟨l0, l1, l2, l3, l4, l5, l6, lf', lz⟩ := k2r.seven
        obtain ⟨q0, q1, q2, qf, qz⟩ := k1r.three2
        go_wp2_with fail
        clear l0 l1 l2 l3 l4 l5 l6 lf' lz q0 q1 q2 qf qz
        refine AnyG.startC (by kernel_rfl) ?_
        refine AnyG.takeP (i := 0) (v := ?_) rfl (by kernel_rfl) (fun _ _ _ h => h) rfl ?_ ?_
        rotate_left
        · (intro w'; go_simp; try with_reducible rfl)
        try simp only [Act.put, List.getElem_toArray, List.getElem_cons_succ, List.getElem_cons_zero, List.setIfInBounds_toArray, List.set_cons_zero, List.set_cons_succ]
        refine AnyG.takeP (i := 1) (v := ?_) rfl (by kernel_rfl) (fun _ _ _ h => h) rfl ?_ ?_
        rotate_left
        · (intro w'; go_simp; try with_reducible rfl)
        try simp only [Act.put, List.getElem_toArray, List.getElem_cons_succ, List.getElem_cons_zero, List.setIfInBounds_toArray, List.set_cons_zero, List.set_cons_succ]
        refine AnyG.takeP (i := 3) (v := ?_) rfl (by kernel_rfl) (fun _ _ _ h => h) rfl ?_ ?_
        rotate_left
        · (intro w'; go_simp; try with_reducible rfl)
        try simp only [Act.put, List.getElem_toArray, List.getElem_cons_succ, List.getElem_cons_zero, List.setIfInBounds_toArray, List.set_cons_zero, List.set_cons_succ]
        refine AnyG.takeP (i := 6) (v := ?_) rfl (by kernel_rfl) (fun _ _ _ h => h) rfl ?_ ?_
        rotate_left
        · (intro w'; go_simp; try with_reducible rfl)
        try simp only [Act.put, List.getElem_toArray, List.getElem_cons_succ, List.getElem_cons_zero, List.setIfInBounds_toArray, List.set_cons_zero, List.set_cons_succ]
        refine AnyG.takeP (i := 8) (v := ?_) rfl (by kernel_rfl) (fun _ _ _ h => h) rfl ?_ ?_
        rotate_left
        · (intro w'; go_simp; try with_reducible rfl)
        try simp only [Act.put, List.getElem_toArray, List.getElem_cons_succ, List.getElem_cons_zero, List.setIfInBounds_toArray, List.set_cons_zero, List.set_cons_succ]
        refine AnyG.takeP (i := 9) (v := ?_) rfl (by kernel_rfl) (fun _ _ _ h => h) rfl ?_ ?_
        rotate_left
        · (intro w'; go_simp; try with_reducible rfl)
        try simp only [Act.put, List.getElem_toArray, List.getElem_cons_succ, List.getElem_cons_zero, List.setIfInBounds_toArray, List.set_cons_zero, List.set_cons_succ]
        refine AnyG.takeP (i := 10) (v := ?_) rfl (by kernel_rfl) (fun _ _ _ h => h) rfl ?_ ?_
        rotate_left
        · (intro w'; go_simp; try with_reducible rfl)
        try simp only [Act.put, List.getElem_toArray, List.getElem_cons_succ, List.getElem_cons_zero, List.setIfInBounds_toArray, List.set_cons_zero, List.set_cons_succ]
        refine AnyG.enter (fun w' : World => Bx w' w.heap.size 62 #[.slice (some ad) tn tc, .slice WA wn wc, .slice DA dn dc] ∧ Bx w' (w.heap.size + 1) 26 #[.int .i64 v.li, .int .i64 v.un, .int .i64 v.tr, .slice (some hda) p.hn p.hc, .int .i64 v.le, .slice p.SA p.sn p.sc, .slice p.LA p.ln p.lc] ∧ Below wr.heap.size wr w') (fun i => true) ?_
        have hS : (fun w' : World => Bx w' w.heap.size 62 #[.slice (some ad) tn tc, .slice WA wn wc, .slice DA dn dc] ∧ Bx w' (w.heap.size + 1) 26 #[.int .i64 v.li, .int .i64 v.un, .int .i64 v.tr, .slice (some hda) p.hn p.hc, .int .i64 v.le, .slice p.SA p.sn p.sc, .slice p.LA p.ln p.lc] ∧ Below wr.heap.size wr w') (World.drew _) := ⟨k1r.drew, k2r.drew, (Below.refl _ _).drew⟩
        refine AnyG.takeC (i := 2) (v := ?_) rfl (by kernel_rfl) (fun _ _ _ h => h) rfl ?_ hS ?_
        rotate_left
        · (intro w' hSw; (try dsimp only at hSw); obtain ⟨q0, q1, q2, qf, qz⟩ := hSw.1.three2; go_simp; try with_reducible rfl)
        try simp only [Act.put, List.getElem_toArray, List.getElem_cons_succ, List.getElem_cons_zero, List.setIfInBounds_toArray, List.set_cons_zero, List.set_cons_succ]
        refine AnyG.takeC (i := 4) (v := ?_) rfl (by kernel_rfl) (fun _ _ _ h => h) rfl ?_ hS ?_
        rotate_left
        · (intro w' hSw; (try dsimp only at hSw); go_simp; try with_reducible rfl)
        try simp only [Act.put, List.getElem_toArray, List.getElem_cons_succ, List.getElem_cons_zero, List.setIfInBounds_toArray, List.set_cons_zero, List.set_cons_succ]
        refine AnyG.takeC (i := 5) (v := ?_) rfl (by kernel_rfl) (fun _ _ _ h => h) rfl ?_ hS ?_
        rotate_left
        · (intro w' hSw; (try dsimp only at hSw); have p1 := cellC hSw.2.2 t0; go_simp; try with_reducible rfl)
        try simp only [Act.put, List.getElem_toArray, List.getElem_cons_succ, List.getElem_cons_zero, List.setIfInBounds_toArray, List.set_cons_zero, List.set_cons_succ]
        refine AnyG.takeC (i := 7) (v := ?_) rfl (by kernel_rfl) (fun _ _ _ h => h) rfl ?_ hS ?_
        rotate_left
        · (intro w' hSw; (try dsimp only at hSw); obtain ⟨x0, x1, x2, x3, x4, x5, x6, xf, xz⟩ := hSw.2.1.seven; go_simp; try with_reducible rfl)
        try simp only [Act.put, List.getElem_toArray, List.getElem_cons_succ, List.getElem_cons_zero, List.setIfInBounds_toArray, List.set_cons_zero, List.set_cons_succ]
        refine AnyG.takeC (i := 11) (v := ?_) rfl (by kernel_rfl) (fun _ _ _ h => h) rfl ?_ hS ?_
        rotate_left
        · (intro w' hSw; (try dsimp only at hSw); have p0 := cellC hSw.2.2 s0; go_simp; try with_reducible rfl)
        try simp only [Act.put, List.getElem_toArray, List.getElem_cons_succ, List.getElem_cons_zero, List.setIfInBounds_toArray, List.set_cons_zero, List.set_cons_succ]
        refine AnyG.takeC (i := 12) (v := ?_) rfl (by kernel_rfl) (fun _ _ _ h => h) rfl ?_ hS ?_
        rotate_left
        · (intro w' hSw; (try dsimp only at hSw); go_simp; try with_reducible rfl)
        try simp only [Act.put, List.getElem_toArray, List.getElem_cons_succ, List.getElem_cons_zero, List.setIfInBounds_toArray, List.set_cons_zero, List.set_cons_succ]
        refine AnyG.takeC (i := 13) (v := ?_) rfl (by kernel_rfl) (fun _ _ _ h => h) rfl ?_ hS ?_
        rotate_left
        · (intro w' hSw; (try dsimp only at hSw); go_simp; try with_reducible rfl)
        try simp only [Act.put, List.getElem_toArray, List.getElem_cons_succ, List.getElem_cons_zero, List.setIfInBounds_toArray, List.set_cons_zero, List.set_cons_succ]
        refine AnyG.takeC (i := 14) (v := ?_) rfl (by kernel_rfl) (fun _ _ _ h => h) rfl ?_ hS ?_
        rotate_left
        · (intro w' hSw; (try dsimp only at hSw); have p2 := cellC hSw.2.2 h0; have p3 := cellC hSw.2.2 h1; have p4 := cellC hSw.2.2 h2; go_simp; try with_reducible rfl)
        try simp only [Act.put, List.getElem_toArray, List.getElem_cons_succ, List.getElem_cons_zero, List.setIfInBounds_toArray, List.set_cons_zero, List.set_cons_succ]
        refine AnyG.takeC (i := 15) (v := ?_) rfl (by kernel_rfl) (fun _ _ _ h => h) rfl ?_ hS ?_
        rotate_left
        · (intro w' hSw; (try dsimp only at hSw); go_simp; try with_reducible rfl)
        try simp only [Act.put, List.getElem_toArray, List.getElem_cons_succ, List.getElem_cons_zero, List.setIfInBounds_toArray, List.set_cons_zero, List.set_cons_succ]
        refine AnyG.takeC (i := 16) (v := ?_) rfl (by kernel_rfl) (fun _ _ _ h => h) rfl ?_ hS ?_
        rotate_left
        · (intro w' hSw; (try dsimp only at hSw); go_simp; try with_reducible rfl)
        try simp only [Act.put, List.getElem_toArray, List.getElem_cons_succ, List.getElem_cons_zero, List.setIfInBounds_toArray, List.set_cons_zero, List.set_cons_succ]
        refine AnyG.one (i := 17) (by kernel_rfl) rfl rfl ?_
        go_simp
        refine Onward.on hS (fun hS2 => ?_)
        clear hS
        have hS := hS2
        clear hS2
        try simp only [Act.put, List.getElem_toArray, List.getElem_cons_succ, List.getElem_cons_zero, List.setIfInBounds_toArray, List.set_cons_zero, List.set_cons_succ]
        refine AnyG.done (by kernel_rfl) ?_ _
        clear hS
        go_simp
        go_wp2_with fail
        refine AnyG.startC (by kernel_rfl) ?_
        refine AnyG.takeP (i := 0) (v := ?_) rfl (by kernel_rfl) (fun _ _ _ h => h) rfl ?_ ?_
        rotate_left
        · (intro w'; go_simp; try with_reducible rfl)
        try simp only [Act.put, List.getElem_toArray, List.getElem_cons_succ, List.getElem_cons_zero, List.setIfInBounds_toArray, List.set_cons_zero, List.set_cons_succ]
        refine AnyG.takeP (i := 1) (v := ?_) rfl (by kernel_rfl) (fun _ _ _ h => h) rfl ?_ ?_
        rotate_left
        · (intro w'; go_simp; try with_reducible rfl)
        try simp only [Act.put, List.getElem_toArray, List.getElem_cons_succ, List.getElem_cons_zero, List.setIfInBounds_toArray, List.set_cons_zero, List.set_cons_succ]
        refine AnyG.takeP (i := 3) (v := ?_) rfl (by kernel_rfl) (fun _ _ _ h => h) rfl ?_ ?_
        rotate_left
        · (intro w'; go_simp; try with_reducible rfl)
        try simp only [Act.put, List.getElem_toArray, List.getElem_cons_succ, List.getElem_cons_zero, List.setIfInBounds_toArray, List.set_cons_zero, List.set_cons_succ]
        refine AnyG.takeP (i := 6) (v := ?_) rfl (by kernel_rfl) (fun _ _ _ h => h) rfl ?_ ?_
        rotate_left
        · (intro w'; go_simp; try with_reducible rfl)
        try simp only [Act.put, List.getElem_toArray, List.getElem_cons_succ, List.getElem_cons_zero, List.setIfInBounds_toArray, List.set_cons_zero, List.set_cons_succ]
        refine AnyG.takeP (i := 8) (v := ?_) rfl (by kernel_rfl) (fun _ _ _ h => h) rfl ?_ ?_
        rotate_left
        · (intro w'; go_simp; try with_reducible rfl)
        try simp only [Act.put, List.getElem_toArray, List.getElem_cons_succ, List.getElem_cons_zero, List.setIfInBounds_toArray, List.set_cons_zero, List.set_cons_succ]
        refine AnyG.takeP (i := 9) (v := ?_) rfl (by kernel_rfl) (fun _ _ _ h => h) rfl ?_ ?_
        rotate_left
        · (intro w'; go_simp; try with_reducible rfl)
        try simp only [Act.put, List.getElem_toArray, List.getElem_cons_succ, List.getElem_cons_zero, List.setIfInBounds_toArray, List.set_cons_zero, List.set_cons_succ]
        refine AnyG.takeP (i := 10) (v := ?_) rfl (by kernel_rfl) (fun _ _ _ h => h) rfl ?_ ?_
        rotate_left
        · (intro w'; go_simp; try with_reducible rfl)
        try simp only [Act.put, List.getElem_toArray, List.getElem_cons_succ, List.getElem_cons_zero, List.setIfInBounds_toArray, List.set_cons_zero, List.set_cons_succ]
        refine AnyG.enter (fun w' : World => Bx w' w.heap.size 62 #[.slice (some ad) tn tc, .slice WA wn wc, .slice DA dn dc] ∧ Bx w' (w.heap.size + 1) 26 #[.int .i64 v.li, .int .i64 v.un, .int .i64 v.tr, .slice (some hda) p.hn p.hc, .int .i64 v.le, .slice p.SA p.sn p.sc, .slice p.LA p.ln p.lc] ∧ Below wr.heap.size wr w') (fun i => true) ?_
        have hS : (fun w' : World => Bx w' w.heap.size 62 #[.slice (some ad) tn tc, .slice WA wn wc, .slice DA dn dc] ∧ Bx w' (w.heap.size + 1) 26 #[.int .i64 v.li, .int .i64 v.un, .int .i64 v.tr, .slice (some hda) p.hn p.hc, .int .i64 v.le, .slice p.SA p.sn p.sc, .slice p.LA p.ln p.lc] ∧ Below wr.heap.size wr w') (World.drew _) := ⟨k1r.drew.drew, k2r.drew.drew, (Below.refl _ _).drew.drew⟩
        refine AnyG.takeC (i := 2) (v := ?_) rfl (by kernel_rfl) (fun _ _ _ h => h) rfl ?_ hS ?_
        rotate_left
        · (intro w' hSw; (try dsimp only at hSw); obtain ⟨q0, q1, q2, qf, qz⟩ := hSw.1.three2; go_simp; try with_reducible rfl)
        try simp only [Act.put, List.getElem_toArray, List.getElem_cons_succ, List.getElem_cons_zero, List.setIfInBounds_toArray, List.set_cons_zero, List.set_cons_succ]
        refine AnyG.takeC (i := 4) (v := ?_) rfl (by kernel_rfl) (fun _ _ _ h => h) rfl ?_ hS ?_
        rotate_left
        · (intro w' hSw; (try dsimp only at hSw); go_simp; try with_reducible rfl)
        try simp only [Act.put, List.getElem_toArray, List.getElem_cons_succ, List.getElem_cons_zero, List.setIfInBounds_toArray, List.set_cons_zero, List.set_cons_succ]
        refine AnyG.takeC (i := 5) (v := ?_) rfl (by kernel_rfl) (fun _ _ _ h => h) rfl ?_ hS ?_
        rotate_left
        · (intro w' hSw; (try dsimp only at hSw); have p1 := cellC hSw.2.2 t0; go_simp; try with_reducible rfl)
        try simp only [Act.put, List.getElem_toArray, List.getElem_cons_succ, List.getElem_cons_zero, List.setIfInBounds_toArray, List.set_cons_zero, List.set_cons_succ]
        refine AnyG.takeC (i := 7) (v := ?_) rfl (by kernel_rfl) (fun _ _ _ h => h) rfl ?_ hS ?_
        rotate_left
        · (intro w' hSw; (try dsimp only at hSw); obtain ⟨x0, x1, x2, x3, x4, x5, x6, xf, xz⟩ := hSw.2.1.seven; go_simp; try with_reducible rfl)
        try simp only [Act.put, List.getElem_toArray, List.getElem_cons_succ, List.getElem_cons_zero, List.setIfInBounds_toArray, List.set_cons_zero, List.set_cons_succ]
        refine AnyG.takeC (i := 11) (v := ?_) rfl (by kernel_rfl) (fun _ _ _ h => h) rfl ?_ hS ?_
        rotate_left
        · (intro w' hSw; (try dsimp only at hSw); have p0 := cellC hSw.2.2 s0; go_simp; try with_reducible rfl)
        try simp only [Act.put, List.getElem_toArray, List.getElem_cons_succ, List.getElem_cons_zero, List.setIfInBounds_toArray, List.set_cons_zero, List.set_cons_succ]
        refine AnyG.takeC (i := 12) (v := ?_) rfl (by kernel_rfl) (fun _ _ _ h => h) rfl ?_ hS ?_
        rotate_left
        · (intro w' hSw; (try dsimp only at hSw); go_simp; try with_reducible rfl)
        try simp only [Act.put, List.getElem_toArray, List.getElem_cons_succ, List.getElem_cons_zero, List.setIfInBounds_toArray, List.set_cons_zero, List.set_cons_succ]
        refine AnyG.takeC (i := 13) (v := ?_) rfl (by kernel_rfl) (fun _ _ _ h => h) rfl ?_ hS ?_
        rotate_left
        · (intro w' hSw; (try dsimp only at hSw); go_simp; try with_reducible rfl)
        try simp only [Act.put, List.getElem_toArray, List.getElem_cons_succ, List.getElem_cons_zero, List.setIfInBounds_toArray, List.set_cons_zero, List.set_cons_succ]
        refine AnyG.takeC (i := 14) (v := ?_) rfl (by kernel_rfl) (fun _ _ _ h => h) rfl ?_ hS ?_
        rotate_left
        · (intro w' hSw; (try dsimp only at hSw); have p2 := cellC hSw.2.2 h0; have p3 := cellC hSw.2.2 h1; have p4 := cellC hSw.2.2 h2; go_simp; try with_reducible rfl)
        try simp only [Act.put, List.getElem_toArray, List.getElem_cons_succ, List.getElem_cons_zero, List.setIfInBounds_toArray, List.set_cons_zero, List.set_cons_succ]
        refine AnyG.takeC (i := 15) (v := ?_) rfl (by kernel_rfl) (fun _ _ _ h => h) rfl ?_ hS ?_
        rotate_left
        · (intro w' hSw; (try dsimp only at hSw); go_simp; try with_reducible rfl)
        try simp only [Act.put, List.getElem_toArray, List.getElem_cons_succ, List.getElem_cons_zero, List.setIfInBounds_toArray, List.set_cons_zero, List.set_cons_succ]
        refine AnyG.takeC (i := 16) (v := ?_) rfl (by kernel_rfl) (fun _ _ _ h => h) rfl ?_ hS ?_
        rotate_left
        · (intro w' hSw; (try dsimp only at hSw); go_simp; try with_reducible rfl)
        try simp only [Act.put, List.getElem_toArray, List.getElem_cons_succ, List.getElem_cons_zero, List.setIfInBounds_toArray, List.set_cons_zero, List.set_cons_succ]
        refine AnyG.one (i := 17) (by kernel_rfl) rfl rfl ?_
        go_simp
        refine Onward.on hS (fun hS2 => ?_)
        clear hS
        have hS := hS2
        clear hS2
        try simp only [Act.put, List.getElem_toArray, List.getElem_cons_succ, List.getElem_cons_zero, List.setIfInBounds_toArray, List.set_cons_zero, List.set_cons_succ]
        refine AnyG.done (by kernel_rfl) ?_ _
        clear hS
        go_simp
        go_wp2_with fail
        go_roundw
        case rel => exact ⟨k + 1, by go_num, by omega, by rw [HT1.out, Int.add_assoc], by rw [HT2.out, Int.add_assoc], hB.drew.drew⟩
        case measure => simp [intOf]; omega
      · rw [if_neg h0n] at hT1 hT2
        rw [Int.add_zero] at hT1 hT2
        have HT1 := Lib.hid hT1
        have HT2 := Lib.hid hT2
        clear hT1 hT2 hze hP1 hP2 hka hkb hkz
        go_wp2_with fail
        go_roundw
        case rel => exact ⟨k + 1, by go_num, by omega, by rw [HT1.out], by rw [HT2.out], hB⟩
        case measure => simp [intOf]; omega
    · obtain rfl : k = sn := by omega
      have hzt : Z.take k = Z := List.take_of_length_le (by rw [HZL.out]; exact Nat.le_refl _)
      have hPk := HP.out k hsn6
      rw [hzt] at hPk ⊢
      rw [← HB.out, ← HTT.out]
      have hB1 := HB.out
      have hB2 := HTT.out
      have hbb : 0 ≤ bw ∧ bw ≤ 305000000 ∧ 0 ≤ st ∧ st ≤ 305000000 := by omega
      obtain ⟨nd, hnd⟩ : ∃ nd, max bw st + 1000 * v.un = nd := ⟨_, rfl⟩
      have hndb : 0 ≤ nd ∧ nd ≤ 320000000 := by omega
      have wn1 : IntKind.i64.wrap (bw + 1000 * v.un) = bw + 1000 * v.un := IntWalk.i64_in _ (by omega)
      have wn2 : IntKind.i64.wrap (st + 1000 * v.un) = st + 1000 * v.un := IntWalk.i64_in _ (by omega)
      have HND := Lib.hid hnd
      have hsal := HSAL.out
      rw [hnd] at hsal
      have HSA := Lib.hid hsal
      have k1r := K1.call hB
      have k2r := K2.call hB
      have V3 := V2.call hB
      have F3 := F2.call hB
      clear hzt hPk hB1 hB2 hsal hnd HSAL HB HTT V2 F2 K1 K2 S2 HP HZL HZ
      obtain ⟨U, rfl⟩ : ∃ U, U = wr := ⟨_, rfl⟩
      have B1 := B0.trans (hB.mono B0.size)
      clear hB B0
      obtain ⟨l0, l1, l2, l3, l4, l5, l6, lf', lz⟩ := k2r.seven
      obtain ⟨q0, q1, q2, qf, qz⟩ := k1r.three2
      rcases Int.lt_or_le bw st with hms | hms
      all_goals
        go_wp2_with fail
        first | rw [show bw + 1000 * v.un = nd by have := HND.out; omega] | rw [show st + 1000 * v.un = nd by have := HND.out; omega]
        go_loopw [13, 14, 15] (fun pv av iv wr => ∃ (i : Nat) (P : List Int) (a : Int) (c : Nat) (X : Option Addr), iv = .int .i64 i ∧ i ≤ p.sn ∧ pv = .slice X i c ∧ av = .int .i64 a ∧ 0 ≤ a ∧ a ≤ 2880 ∧ Hid (P.length = i ∧ RR = P ++ sal (slT nd ((truS v x).drop i)) a) ∧ wr.ownsRow U.heap.size 3 1 (.slice X i c) i (inr P).flatten ∧ Below U.heap.size U wr) (fun _ _ iv _ => p.sn - (intOf iv).toNat)
        case atStart => exact ⟨0, [], v.le, 0, none, rfl, by omega, rfl, rfl, hle.1, hle.2, Lib.hid ⟨rfl, by rw [List.nil_append]; exact HSA.out⟩, World.ownsRow_nil _ _ _ _, Below.refl _ _⟩
        case round =>
          clear l0 l1 l2 l3 l4 l5 l6 lf' lz q0 q1 q2 qf qz
          obtain ⟨i, P, a, c, X, rfl, hi, rfl, rfl, ha0, ha1, hP, OO, hB⟩ := hrel
          have k1s := k1r.call hB
          have k2s := k2r.call hB
          by_cases hin : i < p.sn
          · have hiw : i < x.ws.length := by rw [HW.out]; omega
            obtain ⟨wd, rfl, hwd, t0⟩ := inr_at (F3.call hB).ws hiw
            have hds := salT_drop (nd := nd) (a := a) HX.out hiw
            have hwb := tru_w HO.out HX.out hiw
            generalize x.ws[i] = wy at *
            have HDS := Lib.hid hds
            have waw : IntKind.i64.wrap (a + wy) = a + wy := IntWalk.i64_in _ (by omega)
            have hiw2 : IntKind.i64.wrap ((i : Int) + 1) = (i : Int) + 1 := IntWalk.i64_in _ (by omega)
            have hdb := fun m => dpt_bd2 (truL_bd HO.out HX.out i) m
            have HDB := Lib.hid hdb
            clear hds hiw hdb
            obtain ⟨l0, l1, l2, l3, l4, l5, l6, lf', lz⟩ := k2s.seven
            obtain ⟨q0, q1, q2, qf, qz⟩ := k1s.three2
            go_wp2_with fail
            clear l0 l1 l2 l3 l4 l5 l6 lf' lz q0 q1 q2 qf qz
            obtain ⟨Y, rfl⟩ : ∃ Y, Y = wr := ⟨_, rfl⟩
            go_loopw [14] (fun av wx => ∃ (m : Int), av = .int .i64 m ∧ a + wy ≤ m ∧ m ≤ max (a + wy) 2881 ∧ Hid (∀ k, a + wy ≤ k → k < m → decide (nd ≤ 1000 * dpt (truL v x i) k) = false) ∧ Below Y.heap.size Y wx) (fun av _ => (2881 - intOf av).toNat)
            case atStart => exact ⟨a + wy, rfl, by omega, by omega, Lib.hid (fun k h1 h2 => by omega), Below.refl _ _⟩
            case round =>
              obtain ⟨m, rfl, hm1, hm2, hno, hC⟩ := hrel
              have k1t := k1s.call hC
              have k2t := k2s.call hC
              have V4 := (V3.call hB).call hC
              have F4 := (F3.call hB).call hC
              have ww : IntKind.i64.wrap (m + 1) = m + 1 := IntWalk.i64_in _ (by omega)
              by_cases hlate : m ≤ 2880
              · obtain ⟨DD, hDD⟩ : ∃ D, dpt (truL v x i) m = D := ⟨_, rfl⟩
                have hDb : 0 ≤ DD ∧ DD ≤ 10000 := by rw [← hDD]; exact HDB.out m
                have wD : IntKind.i64.wrap (1000 * DD) = 1000 * DD := IntWalk.i64_in _ (by omega)
                have HDD := Lib.hid hDD
                clear hDD
                obtain ⟨l0, l1, l2, l3, l4, l5, l6, lf', lz⟩ := k2t.seven
                obtain ⟨q0, q1, q2, qf, qz⟩ := k1t.three2
                by_cases hdp : 1000 * DD < nd
                · go_wp2_with (first | (go_at_call 84; refine (tdepth_any v p x TA tn tc (some wd) wn wc DA dn dc i m _ HO.out HX.out hin HD.out V4 F4).mono ?_; rintro e w9 ⟨rfl, hb9⟩; rw [HDD.out]) | fail)
                  go_roundw
                  case rel => exact ⟨m + 1, by go_num, by omega, by omega, Lib.hid (fun k h1 h2 => by
                    by_cases e : k = m
                    · subst e; rw [HDD.out]; simpa using hdp
                    · exact hno.out k h1 (by omega)), hC.trans (hb9.mono hC.size)⟩
                  case measure => simp [intOf]; omega
                · go_upto_region 19 with (first | (go_at_call 84; refine (tdepth_any v p x TA tn tc (some wd) wn wc DA dn dc i m _ HO.out HX.out hin HD.out V4 F4).mono ?_; rintro e w9 ⟨rfl, hb9⟩; rw [HDD.out]) | fail)
                  have hBY := hC.trans (hb9.mono hC.size)
                  have hBU := hB.trans (hBY.mono hB.size)
                  have hfi := ovr_here (ok := fun m => decide (nd ≤ 1000 * dpt (truL v x i) m)) hm1 hlate (by rw [HDD.out]; simpa using hdp) hno.out
                  have HR2 : Hid ((P ++ [m]).length = i + 1 ∧ RR = (P ++ [m]) ++ sal (slT nd ((truS v x).drop (i + 1))) m) := Lib.hid (by
                    refine ⟨by simp [hP.out.1], ?_⟩
                    rw [hP.out.2, HDS.out, hfi]
                    simp)
                  have O5 := own_bel OO hBY
                  have O6 := own_bel O5 ((Below.refl w9.heap.size w9).alloc (Nat.le_refl _) (.cells #[.int .i64 m] 3))
                  have kn := Bx.at w9 3 #[.int .i64 m] rfl
                  have hys := hBU.size
                  clear hfi O5 l0 l1 l2 l3 l4 l5 l6 lf' lz q0 q1 q2 qf qz k1t k2t
                  go_wp2_with (first
                    | (at_builtin; refine wpList_append_own _ rfl (.tmp 109) (.tmp 111) 27 rfl U.heap.size 3 i3 _ 1 8 Try.underlying27 hi3 hz3 hs3 iy3 rfl (by decide) (.slice X i c) i (inr P).flatten rfl O6 ⟨w9.heap.size, 0, none⟩ 1 1 [.int .i64 m] rfl rfl (bx_news kn) (by simp [Value.oneCell']) (by unfold maxLen; omega) (by omega) (by simp; omega) ?_; intro v' w' o1 o2 o3; obtain ⟨X', x', rfl⟩ := own_shape o1)
                    | fail)
                  go_roundw
                  case rel =>
                    refine ⟨i + 1, P ++ [m], m, x', X', by go_num, by omega, rfl, rfl, by omega, by omega, HR2, ?_, (hBU.alloc hBU.size (.cells #[.int .i64 m] 3)).grown o2 (by simp; have := hBU.size; omega) (fun k e => (O6.lt k e).1)⟩
                    rw [inr_snoc]; exact o1
                  case measure => simp [intOf]; omega
              · have hnone : ovr (fun m => decide (nd ≤ 1000 * dpt (truL v x i) m)) (a + wy) = none := ovr_none.2 fun k h1 h2 => hno.out k h1 (by omega)
                have HRP : Hid (RR = P) := Lib.hid (by rw [hP.out.2, HDS.out, hnone]; simp)
                have HPLn := Lib.hid hP.out.1
                have O5 := own_bel OO hC
                have hBU := hB.trans (hC.mono hB.size)
                clear hnone
                go_wp2_with fail
                rw [HRP.out, HPLn.out]
                exact bodyPost_ret (v := .tuple #[.int .i64 bw, .int .i64 st, .slice X i c]) (by simp [results, Try.results39, go_sem]) rfl ⟨⟨X, c, rfl, own_down O5 B1.size⟩, B1.trans (hBU.mono B1.size)⟩
          · obtain rfl : i = p.sn := by omega
            have HRP : Hid (RR = P) := Lib.hid (by rw [hP.out.2, List.drop_eq_nil_of_le (by rw [truS_len HX.out, HSS.out]; exact Nat.le_refl _)]; simp [slT, sal])
            have HPLn := Lib.hid hP.out.1
            obtain ⟨l0, l1, l2, l3, l4, l5, l6, lf', lz⟩ := k2s.seven
            obtain ⟨q0, q1, q2, qf, qz⟩ := k1s.three2
            go_wp2_with fail
            rw [HRP.out, HPLn.out]
            exact bodyPost_ret (v := .tuple #[.int .i64 bw, .int .i64 st, .slice X p.sn c]) (by simp [results, Try.results39, go_sem]) rfl ⟨⟨X, c, rfl, own_down OO B1.size⟩, B1.trans (hB.mono B1.size)⟩
end Go.Proofs.Ytfcpjkofbejleaa
