/- The reference: stowed 70. -/
import Derived.Test.YtfcpjkofbejleaaRcc
set_option linter.unusedSimpArgs false
set_option linter.unusedVariables false
namespace Go.Proofs.Ytfcpjkofbejleaa
open Go Go.RowKit
/-- The error of a stowage of a valid voyage. -/
def ckSo (v : Vg) (s : List Int) : Int := if s.length ≠ v.ls.length then 2 else if inHb v.hs.length s = false then 3 else if roomOk v.hs (abd v.ls s) = false then 13 else 0
/-- The tonnes of the first lots that are in a hold. -/
def sumF (ls : List Cg) (s : List Int) (h : Int) (k : Nat) : Int := (((ls.zip s).take k).map fun p => if p.2 = h then p.1.t1 else 0).sum
theorem sumF_step {ls : List Cg} {s : List Int} {h : Int} {k : Nat} {c : Cg} {x : Int} (hc : ls[k]? = some c) (hx : s[k]? = some x) : sumF ls s h (k + 1) = sumF ls s h k + if x = h then c.t1 else 0 := by
  have hz : (ls.zip s)[k]? = some (c, x) := by rw [List.getElem?_zip_eq_some]; exact ⟨hc, hx⟩
  have hk := (List.getElem?_eq_some_iff.1 hz).1
  unfold sumF
  rw [List.take_succ_eq_append_getElem hk, (List.getElem?_eq_some_iff.1 hz).2, List.map_append, List.sum_append]
  simp
theorem sumF_all {ls : List Cg} {s : List Int} {h : Int} {k : Nat} (h0 : 0 ≤ h) (hk : (ls.zip s).length ≤ k) : sumF ls s h k = sumH (abd ls s) h := by
  unfold sumF
  rw [List.take_of_length_le hk, sumH_eq]
  unfold abd
  generalize ls.zip s = Z
  induction Z with
  | nil => rfl
  | cons p Z ih =>
    by_cases e : p.2 = -1
    · rw [List.filter_cons_of_neg (by simpa using e)]
      simp only [List.map_cons, List.sum_cons]
      rw [if_neg (by omega), ih]
      omega
    · rw [List.filter_cons_of_pos (by simpa using e)]
      simp only [List.map_cons, List.sum_cons]
      rw [ih]
set_option maxRecDepth 100000 in
set_option maxHeartbeats 3200000 in
theorem refStowed_any (v : Vg) (p : Vp) (A : Option Addr) (sn sc : Nat) (s : List Int) (w : World) (ho : v.Ok) (hV : VoyAt w w.heap.size v p) (hS0 : Sl w w.heap.size 1 A (inr s)) (hl : s.length = sn) (hsn : sn ≤ 1000000) :
    Calls Try.prog 70 #[.agg (vcs v p), .slice A sn sc] w fun e w' => e = .returned (.int .i64 (ckSo v s)) ∧ Below w.heap.size w w' := by
  have k0 := Bx.new w 26 (vcs v p)
  have B0 := (Below.refl w.heap.size w).alloc (Nat.le_refl _) (.cells (vcs v p) 26)
  have hV1 := hV.call B0
  have hS1 := hS0.call B0
  have HHL := Lib.hid hV.hl
  have HLL := Lib.hid hV.ll
  have HSL := Lib.hid hl
  have HO := Lib.hid ho
  have hh3 : p.hn ≤ 3 := by rw [← hV.hl]; exact ho.h3
  have hh1 : 1 ≤ p.hn := by rw [← hV.hl]; exact ho.h1
  have hl6 : p.ln ≤ 6 := by rw [← hV.ll]; exact ho.l6
  rw [vcs_def] at k0 B0 hV1 hS1 ⊢
  clear hV hS0 hl ho
  obtain ⟨W1, hW1⟩ : ∃ x, w.alloc (.cells #[.int .i64 v.li, .int .i64 v.un, .int .i64 v.tr, .slice p.HA p.hn p.hc, .int .i64 v.le, .slice p.SA p.sn p.sc, .slice p.LA p.ln p.lc] 26) = x := ⟨_, rfl⟩
  by_cases hne : sn = p.ln
  case neg =>
    have HR : Hid (ckSo v s = 2) := Lib.hid (by unfold ckSo; rw [if_pos (by rw [HSL.out, HLL.out]; exact hne)])
    have hb : ((sn : Int) != (p.ln : Int)) = true := by simp; omega
    have hb2 : (sn != p.ln) = true := by simpa using hne
    have hb3 : (sn = p.ln) = False := eq_false hne
    clear hW1 hne
    go_enter Try.func70, Try.ntmps70
    obtain ⟨l0, l1, l2, l3, l4, l5, l6, lf', lz⟩ := k0.seven
    go_wp2_with fail
    go_ret
    exact ⟨ret_int HR.out.symm, B0⟩
  have hbn : ((sn : Int) != (p.ln : Int)) = false := by simp; omega
  have hbn2 : (sn != p.ln) = false := by simpa using hne
  have hsn6 : sn ≤ 6 := by omega
  have HNE := Lib.hid hne
  have HR0 : Hid (ckSo v s = if inHb v.hs.length s = false then 3 else if roomOk v.hs (abd v.ls s) = false then 13 else 0) := Lib.hid (by unfold ckSo; rw [if_neg (by rw [HSL.out, HLL.out]; exact fun h => h hne)])
  clear hne
  have HW := Lib.hid hW1
  rw [hW1] at k0 B0 hV1 hS1
  clear hW1
  go_enter Try.func70, Try.ntmps70
  go_upto_region 1 with fail
  rw [HW.out]
  obtain ⟨l0, l1, l2, l3, l4, l5, l6, lf', lz⟩ := k0.seven
  go_wp2_with fail
  clear l0 l1 l2 l3 l4 l5 l6 lf' lz
  go_loopw [5] (fun i wr => ∃ k : Nat, k ≤ sn ∧ i = .int .i64 k ∧ Hid (∀ (j : Nat) (x : Int), j < k → s[j]? = some x → -1 ≤ x ∧ x < p.hn) ∧ Below W1.heap.size W1 wr) (fun i _ => sn - (intOf i).toNat)
  case atStart => exact ⟨0, by omega, rfl, Lib.hid (fun j x h => by omega), Below.refl _ _⟩
  case round =>
    obtain ⟨k, hk, rfl, hd, hB⟩ := hrel
    have kr := k0.call hB
    have BR := B0.trans (hB.mono B0.size)
    by_cases hkn : k < sn
    · have hke : k < s.length := by rw [HSL.out]; exact hkn
      obtain ⟨ad, hAe, _, g0⟩ := inr_at (hS1.call hB) hke
      have hget := List.getElem?_eq_getElem hke
      generalize s[k] = x at *
      subst hAe
      have HG := Lib.hid hget
      have hiw : IntKind.i64.wrap ((k : Int) + 1) = (k : Int) + 1 := IntWalk.i64_in _ (by omega)
      have hhw : IntKind.i64.wrap ((p.hn : Int) - 1) = (p.hn : Int) - 1 := IntWalk.i64_in _ (by omega)
      clear hget hke
      by_cases hx : -1 ≤ x ∧ x ≤ (p.hn : Int) - 1
      · have hd' : Hid (∀ (j : Nat) (y : Int), j < k + 1 → s[j]? = some y → -1 ≤ y ∧ y < p.hn) := Lib.hid (fun j y hj hy => by
          by_cases e : j = k
          · subst e
            rw [HG.out, Option.some.injEq] at hy
            subst hy
            omega
          · exact hd.out j y (by omega) hy)
        go_wp2_with fail
        refine AnyG.startC (by kernel_rfl) ?_
        refine AnyG.takeP (i := 0) (v := ?_) rfl (by kernel_rfl) (fun _ _ _ h => h) rfl ?_ ?_
        rotate_left
        · (intro w'; go_simp; try with_reducible rfl)
        try simp only [Act.put, List.getElem_toArray, List.getElem_cons_succ, List.getElem_cons_zero, List.setIfInBounds_toArray, List.set_cons_zero, List.set_cons_succ]
        refine AnyG.takeP (i := 1) (v := ?_) rfl (by kernel_rfl) (fun _ _ _ h => h) rfl ?_ ?_
        rotate_left
        · (intro w'; go_simp; try with_reducible rfl)
        try simp only [Act.put, List.getElem_toArray, List.getElem_cons_succ, List.getElem_cons_zero, List.setIfInBounds_toArray, List.set_cons_zero, List.set_cons_succ]
        refine AnyG.takeP (i := 2) (v := ?_) rfl (by kernel_rfl) (fun _ _ _ h => h) rfl ?_ ?_
        rotate_left
        · (intro w'; go_simp; try with_reducible rfl)
        try simp only [Act.put, List.getElem_toArray, List.getElem_cons_succ, List.getElem_cons_zero, List.setIfInBounds_toArray, List.set_cons_zero, List.set_cons_succ]
        refine AnyG.takeP (i := 4) (v := ?_) rfl (by kernel_rfl) (fun _ _ _ h => h) rfl ?_ ?_
        rotate_left
        · (intro w'; go_simp; try with_reducible rfl)
        try simp only [Act.put, List.getElem_toArray, List.getElem_cons_succ, List.getElem_cons_zero, List.setIfInBounds_toArray, List.set_cons_zero, List.set_cons_succ]
        refine AnyG.enter (fun w' : World => Below wr.heap.size wr w') (fun i => true) ?_
        have hS : (fun w' : World => Below wr.heap.size wr w') (World.drew _) := (Below.refl _ _).drew
        refine AnyG.takeC (i := 3) (v := ?_) rfl (by kernel_rfl) (fun _ _ _ h => h) rfl ?_ hS ?_
        rotate_left
        · (intro w' hSw; (try dsimp only at hSw); have p0 := cellC hSw g0; go_simp; try with_reducible rfl)
        try simp only [Act.put, List.getElem_toArray, List.getElem_cons_succ, List.getElem_cons_zero, List.setIfInBounds_toArray, List.set_cons_zero, List.set_cons_succ]
        refine AnyG.takeC (i := 5) (v := ?_) rfl (by kernel_rfl) (fun _ _ _ h => h) rfl ?_ hS ?_
        rotate_left
        · (intro w' hSw; (try dsimp only at hSw); obtain ⟨x0, x1, x2, x3, x4, x5, x6, xf, xz⟩ := (kr.call hSw).seven; go_simp; try with_reducible rfl)
        try simp only [Act.put, List.getElem_toArray, List.getElem_cons_succ, List.getElem_cons_zero, List.setIfInBounds_toArray, List.set_cons_zero, List.set_cons_succ]
        refine AnyG.takeC (i := 6) (v := ?_) rfl (by kernel_rfl) (fun _ _ _ h => h) rfl ?_ hS ?_
        rotate_left
        · (intro w' hSw; (try dsimp only at hSw); go_simp; try with_reducible rfl)
        try simp only [Act.put, List.getElem_toArray, List.getElem_cons_succ, List.getElem_cons_zero, List.setIfInBounds_toArray, List.set_cons_zero, List.set_cons_succ]
        refine AnyG.takeC (i := 7) (v := ?_) rfl (by kernel_rfl) (fun _ _ _ h => h) rfl ?_ hS ?_
        rotate_left
        · (intro w' hSw; (try dsimp only at hSw); go_simp; try with_reducible rfl)
        try simp only [Act.put, List.getElem_toArray, List.getElem_cons_succ, List.getElem_cons_zero, List.setIfInBounds_toArray, List.set_cons_zero, List.set_cons_succ]
        refine AnyG.one (i := 8) (by kernel_rfl) rfl rfl ?_
        go_simp
        refine (btw_yes _ _ _ _ hx).mono ?_
        rintro er y8 ⟨rfl, hb8⟩
        refine Onward.on (hS.trans (hb8.mono hS.size)) (fun hS2 => ?_)
        clear hS
        have hS := hS2
        clear hS2
        try simp only [Act.put, List.getElem_toArray, List.getElem_cons_succ, List.getElem_cons_zero, List.setIfInBounds_toArray, List.set_cons_zero, List.set_cons_succ]
        refine AnyG.takeC (i := 9) (v := ?_) rfl (by kernel_rfl) (fun _ _ _ h => h) rfl ?_ hS ?_
        rotate_left
        · (intro w' hSw; (try dsimp only at hSw); go_simp; try with_reducible rfl)
        try simp only [Act.put, List.getElem_toArray, List.getElem_cons_succ, List.getElem_cons_zero, List.setIfInBounds_toArray, List.set_cons_zero, List.set_cons_succ]
        refine AnyG.done (by kernel_rfl) ?_ _
        go_simp
        have hE : Below wr.heap.size wr y8 := hS
        clear hS
        go_wp2_with fail
        go_roundw
        case rel => exact ⟨k + 1, by omega, by go_num, hd', hB.trans (hE.mono hB.size)⟩
        case measure => simp [intOf]; omega
      · have HR : Hid (ckSo v s = 3) := Lib.hid (by
          rw [HR0.out, if_pos]
          cases e : inHb v.hs.length s with
          | false => rfl
          | true =>
            have := inHb_iff.1 e x (List.mem_of_getElem? HG.out)
            rw [HHL.out] at this
            exact absurd (by omega) hx)
        go_wp2_with fail
        refine AnyG.startC (by kernel_rfl) ?_
        refine AnyG.takeP (i := 0) (v := ?_) rfl (by kernel_rfl) (fun _ _ _ h => h) rfl ?_ ?_
        rotate_left
        · (intro w'; go_simp; try with_reducible rfl)
        try simp only [Act.put, List.getElem_toArray, List.getElem_cons_succ, List.getElem_cons_zero, List.setIfInBounds_toArray, List.set_cons_zero, List.set_cons_succ]
        refine AnyG.takeP (i := 1) (v := ?_) rfl (by kernel_rfl) (fun _ _ _ h => h) rfl ?_ ?_
        rotate_left
        · (intro w'; go_simp; try with_reducible rfl)
        try simp only [Act.put, List.getElem_toArray, List.getElem_cons_succ, List.getElem_cons_zero, List.setIfInBounds_toArray, List.set_cons_zero, List.set_cons_succ]
        refine AnyG.takeP (i := 2) (v := ?_) rfl (by kernel_rfl) (fun _ _ _ h => h) rfl ?_ ?_
        rotate_left
        · (intro w'; go_simp; try with_reducible rfl)
        try simp only [Act.put, List.getElem_toArray, List.getElem_cons_succ, List.getElem_cons_zero, List.setIfInBounds_toArray, List.set_cons_zero, List.set_cons_succ]
        refine AnyG.takeP (i := 4) (v := ?_) rfl (by kernel_rfl) (fun _ _ _ h => h) rfl ?_ ?_
        rotate_left
        · (intro w'; go_simp; try with_reducible rfl)
        try simp only [Act.put, List.getElem_toArray, List.getElem_cons_succ, List.getElem_cons_zero, List.setIfInBounds_toArray, List.set_cons_zero, List.set_cons_succ]
        refine AnyG.enter (fun w' : World => Below wr.heap.size wr w') (fun i => true) ?_
        have hS : (fun w' : World => Below wr.heap.size wr w') (World.drew _) := (Below.refl _ _).drew
        refine AnyG.takeC (i := 3) (v := ?_) rfl (by kernel_rfl) (fun _ _ _ h => h) rfl ?_ hS ?_
        rotate_left
        · (intro w' hSw; (try dsimp only at hSw); have p0 := cellC hSw g0; go_simp; try with_reducible rfl)
        try simp only [Act.put, List.getElem_toArray, List.getElem_cons_succ, List.getElem_cons_zero, List.setIfInBounds_toArray, List.set_cons_zero, List.set_cons_succ]
        refine AnyG.takeC (i := 5) (v := ?_) rfl (by kernel_rfl) (fun _ _ _ h => h) rfl ?_ hS ?_
        rotate_left
        · (intro w' hSw; (try dsimp only at hSw); obtain ⟨x0, x1, x2, x3, x4, x5, x6, xf, xz⟩ := (kr.call hSw).seven; go_simp; try with_reducible rfl)
        try simp only [Act.put, List.getElem_toArray, List.getElem_cons_succ, List.getElem_cons_zero, List.setIfInBounds_toArray, List.set_cons_zero, List.set_cons_succ]
        refine AnyG.takeC (i := 6) (v := ?_) rfl (by kernel_rfl) (fun _ _ _ h => h) rfl ?_ hS ?_
        rotate_left
        · (intro w' hSw; (try dsimp only at hSw); go_simp; try with_reducible rfl)
        try simp only [Act.put, List.getElem_toArray, List.getElem_cons_succ, List.getElem_cons_zero, List.setIfInBounds_toArray, List.set_cons_zero, List.set_cons_succ]
        refine AnyG.takeC (i := 7) (v := ?_) rfl (by kernel_rfl) (fun _ _ _ h => h) rfl ?_ hS ?_
        rotate_left
        · (intro w' hSw; (try dsimp only at hSw); go_simp; try with_reducible rfl)
        try simp only [Act.put, List.getElem_toArray, List.getElem_cons_succ, List.getElem_cons_zero, List.setIfInBounds_toArray, List.set_cons_zero, List.set_cons_succ]
        refine AnyG.one (i := 8) (by kernel_rfl) rfl rfl ?_
        go_simp
        refine (btw_no _ _ _ _ hx).mono ?_
        rintro er y8 ⟨rfl, hb8⟩
        refine Onward.on (hS.trans (hb8.mono hS.size)) (fun hS2 => ?_)
        clear hS
        have hS := hS2
        clear hS2
        try simp only [Act.put, List.getElem_toArray, List.getElem_cons_succ, List.getElem_cons_zero, List.setIfInBounds_toArray, List.set_cons_zero, List.set_cons_succ]
        refine AnyG.takeC (i := 9) (v := ?_) rfl (by kernel_rfl) (fun _ _ _ h => h) rfl ?_ hS ?_
        rotate_left
        · (intro w' hSw; (try dsimp only at hSw); go_simp; try with_reducible rfl)
        try simp only [Act.put, List.getElem_toArray, List.getElem_cons_succ, List.getElem_cons_zero, List.setIfInBounds_toArray, List.set_cons_zero, List.set_cons_succ]
        refine AnyG.done (by kernel_rfl) ?_ _
        go_simp
        have hE : Below wr.heap.size wr y8 := hS
        clear hS
        go_wp2_with fail
        go_ret
        exact ⟨ret_int HR.out.symm, BR.trans (hE.mono BR.size)⟩
    · obtain rfl : k = sn := by omega
      have HIN : Hid (inHb v.hs.length s = true) := Lib.hid (inHb_iff.2 (fun y hy => by
        obtain ⟨j, hj⟩ := List.getElem?_of_mem hy
        have hjl : j < s.length := (List.getElem?_eq_some_iff.1 hj).1
        rw [HHL.out]
        exact hd.out j y (by rw [← HSL.out]; exact hjl) hj))
      have HR1 : Hid (ckSo v s = if roomOk v.hs (abd v.ls s) = false then 13 else 0) := Lib.hid (by rw [HR0.out, HIN.out]; rfl)
      clear hd hk hkn
      obtain ⟨W2, rfl⟩ : ∃ Z, Z = wr := ⟨_, rfl⟩
      have hV2 := hV1.call hB
      have hS2 := hS1.call hB
      go_wp2_with fail
      go_loopw [6] (fun i wr => ∃ h : Nat, h ≤ p.hn ∧ i = .int .i64 h ∧ Hid (∀ n : Nat, n < h → sumH (abd v.ls s) n ≤ (hd v.hs n).rm) ∧ Below W2.heap.size W2 wr) (fun i _ => p.hn - (intOf i).toNat)
      case atStart => exact ⟨0, by omega, rfl, Lib.hid (fun n h => by omega), Below.refl _ _⟩
      case round =>
        obtain ⟨h, hh, rfl, he, hC⟩ := hrel
        have kc := kr.call hC
        have BC := BR.trans (hC.mono BR.size)
        obtain ⟨l0, l1, l2, l3, l4, l5, l6, lf', lz⟩ := kc.seven
        by_cases hhn : h < p.hn
        · have hhe : h < v.hs.length := by rw [HHL.out]; exact hhn
          obtain ⟨had, hHA, _, q0, _, _⟩ := hd_at (hV2.call hC).hs hhe
          have hhd : hd v.hs (h : Int) = v.hs[h] := by unfold hd; simp [List.getElem?_eq_getElem hhe]
          have HHD := Lib.hid hhd
          generalize v.hs[h] = z at *
          rw [hHA] at l3
          have HHA := Lib.hid hHA
          have hhw : IntKind.i64.wrap ((h : Int) + 1) = (h : Int) + 1 := IntWalk.i64_in _ (by omega)
          clear hHA hhd hhe
          obtain ⟨W3, rfl⟩ : ∃ Z, Z = wr := ⟨_, rfl⟩
          have hV3 := hV2.call hC
          have hS3 := hS2.call hC
          go_wp2_with fail
          clear l0 l1 l2 l3 l4 l5 l6 lf' lz
          go_loopw [7, 8] (fun nv i wr => ∃ (m : Nat) (t : Int), m ≤ k ∧ i = .int .i64 m ∧ nv = .int .i64 t ∧ Hid (t = sumF v.ls s h m) ∧ 0 ≤ t ∧ t ≤ 5000 * m ∧ Below W3.heap.size W3 wr) (fun _ i _ => k - (intOf i).toNat)
          case atStart => exact ⟨0, 0, by omega, rfl, rfl, Lib.hid (by simp [sumF]), by omega, by omega, Below.refl _ _⟩
          case round =>
            obtain ⟨m, t, hm, rfl, rfl, ht, ht0, ht5, hD⟩ := hrel
            have kd := kc.call hD
            obtain ⟨l0, l1, l2, l3, l4, l5, l6, lf', lz⟩ := kd.seven
            by_cases hmn : m < k
            · have hms : m < s.length := by rw [HSL.out]; exact hmn
              have hml : m < v.ls.length := by rw [HLL.out, ← HNE.out]; exact hmn
              have hmln : m < p.ln := by rw [← HNE.out]; exact hmn
              obtain ⟨sad, hSe, _, g0⟩ := inr_at (hS3.call hD) hms
              obtain ⟨lad, hLe, _, _, q1, _⟩ := cg_at (hV3.call hD).ls hml
              have hst := sumF_step (h := (h : Int)) (List.getElem?_eq_getElem hml) (List.getElem?_eq_getElem hms)
              have hbd := HO.out.ls _ (List.getElem_mem hml)
              generalize s[m] = x at *
              generalize v.ls[m] = cg at *
              subst hSe
              rw [hLe] at l6
              have HLe := Lib.hid hLe
              have HSTP := Lib.hid hst
              have hc0 := hbd.t0
              have hc1 := hbd.t01
              have hc2 := hbd.t1
              have hmw : IntKind.i64.wrap ((m : Int) + 1) = (m : Int) + 1 := IntWalk.i64_in _ (by omega)
              have htw : IntKind.i64.wrap (t + cg.t1) = t + cg.t1 := IntWalk.i64_in _ (by omega)
              clear hLe hst hbd hms hml
              by_cases hx : x = (h : Int)
              · have hxb : (x == (h : Int)) = true := by rw [beq_iff_eq]; exact hx
                have HX := Lib.hid (show t + cg.t1 = sumF v.ls s h (m + 1) by rw [HSTP.out, ht.out, if_pos hx])
                clear hx
                go_wp2_with fail
                go_roundw
                case rel => exact ⟨m + 1, t + cg.t1, by omega, by go_num, rfl, HX, by omega, by omega, hD⟩
                case measure => simp [intOf]; omega
              · have hxb : (x == (h : Int)) = false := by rw [beq_eq_false_iff_ne]; exact hx
                have hxp : (x = (h : Int)) = False := eq_false hx
                have HX := Lib.hid (show t = sumF v.ls s h (m + 1) by rw [HSTP.out, ht.out, if_neg hx, Int.add_zero])
                clear hx
                go_wp2_with fail
                go_roundw
                case rel => exact ⟨m + 1, t, by omega, by go_num, rfl, HX, by omega, by omega, hD⟩
                case measure => simp [intOf]; omega
            · obtain rfl : m = k := by omega
              have HT := Lib.hid (show t = sumH (abd v.ls s) h by rw [ht.out, sumF_all (by omega) (by rw [List.length_zip, HLL.out, HSL.out]; omega)])
              have q0' := cellC hD q0
              rw [HHA.out] at l3
              have BD := BC.trans (hD.mono BC.size)
              by_cases hr : z.rm < t
              · have HR : Hid (ckSo v s = 13) := Lib.hid (by
                  rw [HR1.out, if_pos]
                  cases e : roomOk v.hs (abd v.ls s) with
                  | false => rfl
                  | true =>
                    have a := roomOk_iff.1 e h (by rw [HHL.out]; exact hhn)
                    rw [HHD.out, ← HT.out] at a
                    omega)
                go_wp2_with fail
                go_ret
                exact ⟨ret_int HR.out.symm, BD⟩
              · have HE : Hid (∀ n : Nat, n < h + 1 → sumH (abd v.ls s) n ≤ (hd v.hs n).rm) := Lib.hid (fun n hn => by
                  by_cases e : n = h
                  · subst e
                    rw [HHD.out, ← HT.out]
                    omega
                  · exact he.out n (by omega))
                go_wp2_with fail
                go_roundw
                case rel => exact ⟨h + 1, by omega, by go_num, HE, hC.trans (hD.mono hC.size)⟩
                case measure => simp [intOf]; omega
        · have HR : Hid (ckSo v s = 0) := Lib.hid (by
            rw [HR1.out, if_neg]
            rw [roomOk_iff.2 (fun n hn => he.out n (by rw [HHL.out] at hn; omega))]
            simp)
          go_wp2_with fail
          go_ret
          exact ⟨ret_int HR.out.symm, BC⟩
end Go.Proofs.Ytfcpjkofbejleaa
