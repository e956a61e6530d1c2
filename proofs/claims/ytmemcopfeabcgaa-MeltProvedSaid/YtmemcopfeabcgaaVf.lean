/- melt.checker.check, Verify: proofs that are checked. -/
import Derived.Test.YtmemcopfeabcgaaVc
import Derived.Test.YtmemcopfeabcgaaCu
import Derived.Test.YtmemcopfeabcgaaPp
import Derived.Test.YtmemcopfeabcgaaEq
import Derived.Test.YtmemcopfeabcgaaKq
set_option linter.unusedSimpArgs false
set_option linter.unusedVariables false
namespace Go.Proofs.Ytmemcopfeabcgaa
open Go Go.RowKit
theorem add0 (a : Addr) : a.add 0 = a := by
  obtain ⟨b, o, s⟩ := a
  cases s <;> simp [Addr.add]
theorem bds_drop {w : World} {B : Nat} {ad : Addr} {r : Bd} {L : List Bd} (h : Sl w B 3 (some ad) ((r :: L).map bdr)) : Sl w B 3 (some (ad.add 3)) (L.map bdr) := fun k r' hr => by
  obtain ⟨a', h1, h2, h3⟩ := h (k + 1) r' (by simpa using hr)
  simp only [Option.some.injEq] at h1
  subst h1
  refine ⟨_, rfl, by rw [add_block]; exact h2, ?_⟩
  rw [add_add, show 3 + k * 3 = (k + 1) * 3 by omega]
  exact h3
theorem vfy_len {o : Od} {p : Int} : ∀ (n : Nat) (lo hi : Nat → Int) (L : List Bd), (vfy o p n lo hi L).1.length ≤ L.length := by
  intro n
  induction n with
  | zero => intro lo hi L; simp [vfy]
  | succ n ih =>
    intro lo hi L
    cases L with
    | nil => simp [vfy]
    | cons r L =>
      unfold vfy
      split
      · simp
      · split
        · simp
        · split
          · exact Nat.le_trans (ih _ _ _) (by simp)
          · exact Nat.le_trans (ih _ _ _) (Nat.le_trans (ih _ _ _) (by simp))
theorem Bx.six {w : World} {g : Nat} {t : TypeId} {a b c d e f : Value} (h : Bx w g t #[a, b, c, d, e, f]) : w.cell? ⟨g, 0, none⟩ = some a ∧ w.cell? ⟨g, 1, none⟩ = some b ∧ w.cell? ⟨g, 2, none⟩ = some c ∧ w.cell? ⟨g, 3, none⟩ = some d ∧ w.cell? ⟨g, 4, none⟩ = some e ∧ w.cell? ⟨g, 5, none⟩ = some f ∧ (∀ o, w.frozen? ⟨g, o, none⟩ = false) ∧ g < w.heap.size := ⟨h.cell 0, h.cell 1, h.cell 2, h.cell 3, h.cell 4, h.cell 5, h.free, h.lt⟩
/-- What check gives back. -/
def CheckP (LA : Option Addr) (ln lc : Nat) (BA : Option Addr) (bn bc : Nat) (o : Od) (p : Int) (B q : Nat) (w : World) (R : List Bd × Int) (e : Ending) (w' : World) : Prop :=
  e = .returned (.int .i64 R.2) ∧ w.grownBy w' (some q) ∧ ∃ (RA : Option Addr) (rc : Nat), Bx w' q 103 #[.slice LA ln lc, .int .i64 o.le, .int .i64 o.mo, .slice BA bn bc, .int .i64 p, .slice RA R.1.length rc] ∧ Sl w' B 3 RA (R.1.map bdr) ∧ R.1.length ≤ rc
theorem sl_kept {w w' : World} {B q s : Nat} {A : Option Addr} {xs : List (List Value)} (h : Sl w B s A xs) (k : w.grownBy w' (some q)) (hB : B ≤ w.heap.size) (hq : B ≤ q) : Sl w' B s A xs :=
  h.below ⟨k.os, k.tape, k.output, k.size, fun i hi => k.block i (by omega) (by simp; omega)⟩
theorem ord_kept {w w' : World} {B q : Nat} {LA BA : Option Addr} {o : Od} (h : OrdAt w B LA BA o) (k : w.grownBy w' (some q)) (hB : B ≤ w.heap.size) (hq : B ≤ q) : OrdAt w' B LA BA o :=
  h.below ⟨k.os, k.tape, k.output, k.size, fun i hi => k.block i (by omega) (by simp; omega)⟩
set_option maxRecDepth 100000 in
set_option maxHeartbeats 8000000 in
theorem check64_any (LA : Option Addr) (ln lc : Nat) (BA : Option Addr) (bn bc : Nat) (o : Od) (p : Int) (B q : Nat) (hl : o.lm.length = ln) (hb' : o.bs.length = bn) (ho : o.Ok) (hBq : B ≤ q) : ∀ (fuel : Nat) (lo hi : Nat → Int) (L : List Bd) (RA : Option Addr) (rc : Nat) (w : World), wid lo hi < fuel → BoxOk lo hi → OrdAt w B LA BA o → Sl w B 3 RA (L.map bdr) → Bx w q 103 #[.slice LA ln lc, .int .i64 o.le, .int .i64 o.mo, .slice BA bn bc, .int .i64 p, .slice RA L.length rc] → B ≤ w.heap.size → L.length ≤ 9000000000000000000 → L.length ≤ rc →
    Calls Try.prog 64 #[.pointer (some ⟨q, 0, none⟩), .agg (xarr lo hi)] w (CheckP LA ln lc BA bn bc o p B q w (vfy o p fuel lo hi L)) := by
  have HB := Lib.hid hb'
  have HL := Lib.hid hl
  have HO := Lib.hid ho
  have hbn4 : bn ≤ 4 := by rw [← hb']; exact ho.b2
  clear hb' hl ho
  intro fuel
  induction fuel with
  | zero => intro lo hi L RA rc w hw; omega
  | succ fuel ih =>
    intro lo hi L RA rc w hw hbx hA hS hq hBw hL9 hrc
    have IH := Lib.hid ih
    have HX := Lib.hid hbx
    clear ih hbx
    have hql := hq.lt
    have k1 := Bx.new w 91 (xarr lo hi)
    have B0 := (Below.refl w.heap.size w).alloc (Nat.le_refl _) (.cells (xarr lo hi) 91)
    obtain ⟨n, hn⟩ : ∃ n, L.length = n := ⟨_, rfl⟩
    rw [hn] at hq
    cases L with
    | nil =>
      obtain rfl : n = 0 := by simpa using hn.symm
      obtain ⟨q0, q1, q2, q3, q4, q5, qf, qz⟩ := (hq.call B0).six
      have hS1 := (hS.below (B0.mono hBw))
      have hq1 := hq.call B0
      go_enter Try.func64, Try.ntmps64
      go_wp2_with fail
      go_ret
      exact ⟨by simp [vfy], grown_below B0, RA, rc, by simpa [vfy] using hq1, by simpa [vfy] using hS1, by simp [vfy]⟩
    | cons r L =>
      have hnr : n = L.length + 1 := by simpa using hn.symm
      obtain ⟨ad, h0, had, r0, r1, r2⟩ := bd_at hS (k := 0) (by simp)
      subst h0
      have hSD := bds_drop hS
      obtain ⟨rs, at_, ct⟩ := r
      simp only [Nat.zero_mul, List.getElem_cons_zero, add0] at r0 r1 r2
      obtain ⟨V, hV⟩ : ∃ V, w.alloc (.cells (xarr lo hi) 91) = V := ⟨_, rfl⟩
      rw [hV] at k1 B0
      have HV := Lib.hid hV
      have hqV := hq.call B0
      have hSV := hSD.below (B0.mono hBw)
      have hAV := hA.below (B0.mono hBw)
      have r0V := cellL (B0.mono hBw) had r0
      have r1V := cellL (B0.mono hBw) (a := ⟨ad.block, ad.off + 1, none⟩) had r1
      have r2V := cellL (B0.mono hBw) (a := ⟨ad.block, ad.off + 2, none⟩) had r2
      obtain ⟨q0, q1, q2, q3, q4, q5, qf, qz⟩ := hqV.six
      have HN := Lib.hid hnr
      obtain ⟨NA, hNA⟩ : ∃ x, (if rc = 1 then some ad else some (⟨ad.block, ad.off + 3, none⟩ : Addr)) = x := ⟨_, rfl⟩
      have hSN : Sl V B 3 NA (L.map bdr) := by
        rw [← hNA]
        split
        · have : L = [] := List.eq_nil_of_length_eq_zero (by simp at hrc; omega)
          subst this; exact Sl.nil _ _ _ _
        · exact hSV
      clear hn hnr hV hS hSD hSV hA hq r0 r1 r2
      have hn0 : ((n : Int) == 0) = false := by simp; have := HN.out; omega
      have hn1 : 1 ≤ n := by have := HN.out; omega
      go_enter Try.func64, Try.ntmps64
      go_upto_region 1 with fail
      rw [HV.out]
      go_upto_region 5 with fail
      clear q0 q1 q2 q3 q4 q5 qf qz r0V r1V r2V hn0
      try rw [hNA]
      obtain ⟨V1, hV1⟩ : ∃ X, (V.setCell ⟨q, 5, none⟩ (.slice NA (n - 1) (rc - 1))).alloc (.cells #[.int .i64 rs, .int .i64 at_, .int .i64 ct] 69) = X := ⟨_, rfl⟩
      have G1 : w.grownBy V1 (some q) := by rw [← hV1]; exact grown_alloc (grownF_trans (grown_below B0) (grown_set V q 5 _)) _
      have hqne : w.heap.size ≠ q := by omega
      have kx1 : Bx V1 w.heap.size 91 (xarr lo hi) := by rw [← hV1]; exact (k1.far hqne _).alloc _
      have kq1 : Bx V1 q 103 #[.slice LA ln lc, .int .i64 o.le, .int .i64 o.mo, .slice BA bn bc, .int .i64 p, .slice NA L.length (rc - 1)] := by
        have := hqV.set_ 5 (.slice NA (n - 1) (rc - 1))
        rw [← hV1]
        refine Bx.alloc ?_ _
        have e : n - 1 = L.length := by have := HN.out; omega
        rw [← e]
        simpa using this
      have kb1 : Bx V1 V.heap.size 69 #[.int .i64 rs, .int .i64 at_, .int .i64 ct] := by rw [← hV1]; exact Bx.at _ 69 _ (n := V.heap.size) (by simp)
      have B1 : Below B V V1 := by rw [← hV1]; exact ((Below.refl B V).setCell hBq _).alloc (by have := B0.size; simp; omega) _
      have hA1 := hAV.below B1
      have hS1 := hSN.below B1
      have hB1 : B ≤ V1.heap.size := by have := B1.size; have := B0.size; omega
      rw [hV1]
      have HV1 := Lib.hid hV1
      clear hV1 k1 hqV hAV hSN B1 hNA
      have hVs := kb1.lt
      obtain ⟨vb, hvb⟩ : ∃ b, V.heap.size = b := ⟨_, rfl⟩
      obtain ⟨xb, hxb⟩ : ∃ b, w.heap.size = b := ⟨_, rfl⟩
      have hbq : vb ≠ q := by have := B0.size; omega
      have hbx2 : xb ≠ q := by omega
      have hvx : vb ≠ xb := by have h := B0.size; have : w.heap.size < V.heap.size := by rw [← HV.out]; simp
                               omega
      rw [hvb] at kb1 ⊢
      rw [hxb] at kx1 ⊢
      clear B0 HV
      go_wp2_with fail
      refine AnyG.startC (by kernel_rfl) ?_
      refine AnyG.takeP (i := 0) (v := ?_) rfl (by kernel_rfl) (fun _ _ _ h => h) rfl ?_ ?_
      rotate_left
      · (intro w'; go_simp; try with_reducible rfl)
      try simp only [Act.put, List.getElem_toArray, List.getElem_cons_succ, List.getElem_cons_zero, List.setIfInBounds_toArray, List.set_cons_zero, List.set_cons_succ]
      refine AnyG.takeP (i := 1) (v := ?_) rfl (by kernel_rfl) (fun _ _ _ h => h) rfl ?_ ?_
      rotate_left
      · (intro w'; go_simp; try with_reducible rfl)
      try simp only [Act.put, List.getElem_toArray, List.getElem_cons_succ, List.getElem_cons_zero, List.setIfInBounds_toArray, List.set_cons_zero, List.set_cons_succ]
      refine AnyG.takeP (i := 2) (v := ?_) rfl (by kernel_rfl) (fun _ _ _ h => h) rfl ?_ ?_
      rotate_left
      · (intro w'; go_simp; try with_reducible rfl)
      try simp only [Act.put, List.getElem_toArray, List.getElem_cons_succ, List.getElem_cons_zero, List.setIfInBounds_toArray, List.set_cons_zero, List.set_cons_succ]
      refine AnyG.enter (fun w' : World => Below V1.heap.size V1 w') (fun i => true) ?_
      have hS : (fun w' : World => Below V1.heap.size V1 w') (World.drew _) := (Below.refl _ _).drew
      refine AnyG.takeC (i := 3) (v := ?_) rfl (by kernel_rfl) (fun _ _ _ h => h) rfl ?_ hS ?_
      rotate_left
      · (intro w' hSw; (try dsimp only at hSw); obtain ⟨q0, q1, q2, q3, q4, q5, qf, qz⟩ := (kq1.call hSw).six; go_simp; try with_reducible rfl)
      try simp only [Act.put, List.getElem_toArray, List.getElem_cons_succ, List.getElem_cons_zero, List.setIfInBounds_toArray, List.set_cons_zero, List.set_cons_succ]
      refine AnyG.takeC (i := 4) (v := ?_) rfl (by kernel_rfl) (fun _ _ _ h => h) rfl ?_ hS ?_
      rotate_left
      · (intro w' hSw; (try dsimp only at hSw); obtain ⟨b0, b1, b2, bf, bz⟩ := (kb1.call hSw).three; go_simp; try with_reducible rfl)
      try simp only [Act.put, List.getElem_toArray, List.getElem_cons_succ, List.getElem_cons_zero, List.setIfInBounds_toArray, List.set_cons_zero, List.set_cons_succ]
      refine AnyG.takeC (i := 5) (v := ?_) rfl (by kernel_rfl) (fun _ _ _ h => h) rfl ?_ hS ?_
      rotate_left
      · (intro w' hSw; (try dsimp only at hSw); obtain ⟨p0, p1, p2, p3, p4, p5, p6, p7, pf, pz⟩ := (kx1.call hSw).xarr; go_simp; try with_reducible rfl)
      try simp only [Act.put, List.getElem_toArray, List.getElem_cons_succ, List.getElem_cons_zero, List.setIfInBounds_toArray, List.set_cons_zero, List.set_cons_succ]
      refine AnyG.one (i := 6) (by kernel_rfl) rfl rfl ?_
      go_simp
      rw [← xarr_def lo hi]
      refine (checkBound_any LA ln lc BA bn bc o p lo hi rs at_ ct _ HL.out HB.out ((hA1.below (hS.mono hB1)).more (Nat.le_trans hB1 hS.size)) HO.out HX.out).mono ?_
      rintro e6 y6 ⟨rfl, hb6⟩
      refine Onward.on (hS.trans (hb6.mono hS.size)) (fun hS2 => ?_)
      clear hS
      have hS := hS2
      clear hS2
      try simp only [Act.put, List.getElem_toArray, List.getElem_cons_succ, List.getElem_cons_zero, List.setIfInBounds_toArray, List.set_cons_zero, List.set_cons_succ]
      refine AnyG.takeC (i := 7) (v := ?_) rfl (by kernel_rfl) (fun _ _ _ h => h) rfl ?_ hS ?_
      rotate_left
      · (intro w' hSw; (try dsimp only at hSw); go_simp; try with_reducible rfl)
      try simp only [Act.put, List.getElem_toArray, List.getElem_cons_succ, List.getElem_cons_zero, List.setIfInBounds_toArray, List.set_cons_zero, List.set_cons_succ]
      refine AnyG.done (by kernel_rfl) ?_ _
      have hB2 := hS
      clear hS
      go_simp
      have kx2 := kx1.call hB2
      have kq2 := kq1.call hB2
      have kb2 := kb1.call hB2
      have hA2 := hA1.below (hB2.mono hB1)
      have hS2 := hS1.below (hB2.mono hB1)
      have G2 := grownF_trans G1 (grown_below (row := some q) hB2)
      have hB2s := hB2.size
      clear kx1 kq1 kb1 hA1 hS1 G1 hB2
      obtain ⟨cv, hcv⟩ : ∃ x, ckBd o p lo hi ⟨rs, at_, ct⟩ = x := ⟨_, rfl⟩
      rw [hcv]
      have HCV := Lib.hid hcv
      clear hcv
      obtain ⟨b0, b1, b2, bf, bz⟩ := kb2.three
      by_cases hc0 : cv = 0
      · subst hc0
        by_cases h1 : rs = 1
        · subst h1
          obtain ⟨z0, z1, z2, z3⟩ := ckBd_cut HCV.out rfl
          dsimp only at z0 z1 z2 z3
          obtain ⟨m, rfl⟩ : ∃ m : Nat, at_ = m := ⟨at_.toNat, by omega⟩
          rw [Int.toNat_natCast] at z2 z3
          rw [HB.out] at z1
          have hm4 : m < 4 := by omega
          have hc6 : 0 ≤ ct ∧ ct ≤ 6 := by
            have := HX.out.six m
            have := HX.out.six2 m
            omega
          have HXL := Lib.hid (HX.out.lower hm4 z2 z3)
          have HXU := Lib.hid (HX.out.upper hm4 z2 z3)
          have hwl : wid lo (up1 hi m ct) < fuel := by have := wid_lower hm4 z2 z3; omega
          have hwu : wid (up1 lo m (ct + 1)) hi < fuel := by have := wid_upper hm4 z2 z3; omega
          have hL9' : L.length ≤ 9000000000000000000 := by simp at hL9; omega
          have hrc' : L.length ≤ rc - 1 := by simp at hrc; omega
          have ev : vfy o p (fuel + 1) lo hi (⟨1, (m : Int), ct⟩ :: L) = (if (vfy o p fuel lo (up1 hi m ct) L).2 ≠ 0 then vfy o p fuel lo (up1 hi m ct) L else vfy o p fuel (up1 lo m (ct + 1)) hi (vfy o p fuel lo (up1 hi m ct) L).1) := by
            have h := HCV.out
            conv => lhs; unfold vfy
            rw [if_neg (fun h2 => h2 h), if_neg (fun h2 => h2 rfl)]
            dsimp only
            rw [Int.toNat_natCast]
          have HEV := Lib.hid ev
          clear ev z0 z1 z2 z3 hw hL9 hrc
          obtain ⟨p0, p1, p2, p3, p4, p5, p6, p7, pf, pz⟩ := kx2.xarr
          go_upto_region 9 with (first | (go_at_call 91; rw [← xarr_def lo hi]; refine (cut_any lo hi m ct _ hm4 hc6).mono ?_; rintro e w4 ⟨rfl, hb4⟩; rw [xarr_def lo (up1 hi m ct), xarr_def (up1 lo m (ct + 1)) hi]) | fail)
          clear p0 p1 p2 p3 p4 p5 p6 p7 pf pz b0 b1 b2 bf bz
          rw [← xarr_def lo (up1 hi m ct), ← xarr_def (up1 lo m (ct + 1)) hi]
          obtain ⟨V4, hV4⟩ : ∃ X, (w4.alloc (.cells (xarr lo (up1 hi m ct)) 91)).alloc (.cells (xarr (up1 lo m (ct + 1)) hi) 91) = X := ⟨_, rfl⟩
          have kl : Bx V4 w4.heap.size 91 (xarr lo (up1 hi m ct)) := by rw [← hV4]; exact (Bx.new _ _ _).alloc _
          have ku : Bx V4 (w4.heap.size + 1) 91 (xarr (up1 lo m (ct + 1)) hi) := by rw [← hV4]; exact Bx.at _ 91 _ (n := w4.heap.size + 1) (by simp)
          have hB4 : Below _ y6 V4 := hb4.trans (by rw [← hV4]; exact ((Below.refl _ _).alloc hb4.size _).alloc (by have := hb4.size; simp; omega) _)
          rw [hV4]
          have kq4 := kq2.call hB4
          have hA4 := hA2.below (hB4.mono (Nat.le_trans hB1 hB2s))
          have hS4 := hS2.below (hB4.mono (Nat.le_trans hB1 hB2s))
          have G4 := grownF_trans G2 (grown_below (row := some q) hB4)
          have hB4' : B ≤ V4.heap.size := Nat.le_trans (Nat.le_trans hB1 hB2s) hB4.size
          have hq4 : w4.heap.size ≠ q := by have := hb4.size; have := kq2.lt; omega
          have hq41 : w4.heap.size + 1 ≠ q := by have := hb4.size; have := kq2.lt; omega
          clear hV4 kx2 kq2 kb2 hA2 hS2 G2 hB2s hB4 hb4
          obtain ⟨bl, hbl⟩ : ∃ b, w4.heap.size = b := ⟨_, rfl⟩
          rw [hbl] at kl ku hq4 hq41 ⊢
          clear hbl
          obtain ⟨p0, p1, p2, p3, p4, p5, p6, p7, pf, pz⟩ := kl.xarr
          go_upto_region 10 with (first | (go_at_call 64; rw [← xarr_def lo (up1 hi m ct)]; refine (IH.out lo (up1 hi m ct) L NA (rc - 1) _ hwl HXL.out hA4 hS4 kq4 hB4' hL9' hrc').mono ?_; rintro e w5 ⟨rfl, G5, RA5, rc5, kq5, hS5, hr5⟩) | fail)
          have ku5 := ku.grown G5 (by simpa using hq41)
          have hA5 := ord_kept hA4 G5 hB4' hBq
          have hB5 : B ≤ w5.heap.size := Nat.le_trans hB4' G5.size
          have GG5 := grownF_trans G4 G5
          clear p0 p1 p2 p3 p4 p5 p6 p7 pf pz kl ku kq4 hA4 hS4 G4 hB4' G5
          obtain ⟨e5, he5⟩ : ∃ x, (vfy o p fuel lo (up1 hi m ct) L).2 = x := ⟨_, rfl⟩
          obtain ⟨L5, hL5⟩ : ∃ x, (vfy o p fuel lo (up1 hi m ct) L).1 = x := ⟨_, rfl⟩
          have hR5 : vfy o p fuel lo (up1 hi m ct) L = (L5, e5) := by rw [← he5, ← hL5]
          have hl5 : L5.length ≤ L.length := by rw [← hL5]; exact vfy_len _ _ _ _
          rw [hR5] at HEV kq5 hS5 hr5
          rw [he5]
          clear he5 hL5 hR5
          dsimp only at HEV kq5 hS5 hr5
          by_cases h5 : e5 = 0
          · subst h5
            obtain ⟨p0, p1, p2, p3, p4, p5, p6, p7, pf, pz⟩ := ku5.xarr
            go_wp2_with (first | (go_at_call 64; rw [← xarr_def (up1 lo m (ct + 1)) hi]; refine (IH.out (up1 lo m (ct + 1)) hi L5 RA5 rc5 _ hwu HXU.out hA5 hS5 kq5 hB5 (by omega) hr5).mono ?_; rintro e w6 ⟨rfl, G6, RA6, rc6, kq6, hS6, hr6⟩) | fail)
            go_ret
            rw [HEV.out, if_neg (fun h => h rfl)]
            exact ⟨rfl, grownF_trans GG5 G6, RA6, rc6, kq6, hS6, hr6⟩
          · have d5 : (e5 == 0) = false := by simp; exact h5
            have HH5 := Lib.hid h5
            clear h5
            go_wp2_with fail
            go_ret
            rw [HEV.out, if_pos HH5.out]
            exact ⟨rfl, GG5, RA5, rc5, kq5, hS5, hr5⟩
        · have d1 : (rs == 1) = false := by simp; exact h1
          have ev : vfy o p (fuel + 1) lo hi (⟨rs, at_, ct⟩ :: L) = (L, 0) := by
            unfold vfy; rw [if_neg (fun h => h HCV.out), if_pos h1]
          have HEV := Lib.hid ev
          clear h1 ev
          go_wp2_with fail
          go_ret
          rw [HEV.out]
          exact ⟨rfl, G2, NA, rc - 1, kq2, hS2, by simp at hrc; dsimp only; omega⟩
      · have d0 : (cv == 0) = false := by simp; exact hc0
        have ev : vfy o p (fuel + 1) lo hi (⟨rs, at_, ct⟩ :: L) = (L, cv) := by
          unfold vfy; rw [if_pos (fun h => hc0 (by rw [← HCV.out]; exact h)), HCV.out]
        have HEV := Lib.hid ev
        clear hc0 ev
        go_wp2_with fail
        go_ret
        rw [HEV.out]
        exact ⟨rfl, G2, NA, rc - 1, kq2, hS2, by simp at hrc; dsimp only; omega⟩
end Go.Proofs.Ytmemcopfeabcgaa
