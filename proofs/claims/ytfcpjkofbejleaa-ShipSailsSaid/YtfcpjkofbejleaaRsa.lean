/- The reference: Over 105, Depths 106. -/
import Derived.Test.YtfcpjkofbejleaaSdmM
import Derived.Test.YtfcpjkofbejleaaSd
set_option linter.unusedSimpArgs false
set_option linter.unusedVariables false
namespace Go.Proofs.Ytfcpjkofbejleaa
open Go Go.RowKit
theorem dpt_lev {L : List Lv} (ha : L.Pairwise fun x y => x.fr < y.fr) {g : Bool} {m : Int} {i : Nat} (hi : i < L.length) (h1 : L[i].fr ≤ m) (h2 : ∀ h : i + 1 < L.length, m < L[i + 1].fr) : dpt (lvL L g) m = if g then L[i].d1 else L[i].d0 := by
  have key : ∀ k, i + 1 ≤ k → k ≤ L.length → dpt (lvL (L.take k) g) m = if g then L[i].d1 else L[i].d0 := by
    intro k
    induction k with
    | zero => intro h; omega
    | succ k ih =>
      intro h1k h2k
      rw [dpt_take (by omega)]
      by_cases e : k = i
      · subst e; rw [if_pos h1]
      · have hk1 : i + 1 < L.length := by omega
        have h3 := h2 hk1
        have hle : L[i + 1].fr ≤ L[k].fr := by
          by_cases e2 : k = i + 1
          · subst e2; exact Int.le_refl _
          · exact Int.le_of_lt (List.pairwise_iff_getElem.1 ha (i + 1) k hk1 (by omega) (by omega))
        rw [if_neg (by omega)]
        exact ih (by omega) (by omega)
  have := key L.length (by omega) (Nat.le_refl _)
  rwa [List.take_length] at this
/-- The first level of each sill is from minute 0 on. -/
def Zer (v : Vg) : Prop := ∀ s ∈ v.ss, ∀ h : 0 < s.lv.length, s.lv[0].fr = 0
theorem ckSis_mem : ∀ {L : List Si}, ckSis L = 0 → ∀ s ∈ L, ckSi s = 0
  | [], _, s, hs => by simp at hs
  | x :: r, h, s, hs => by
    unfold ckSis at h
    split at h
    · rename_i hn; exact absurd h hn
    · rename_i hn
      rcases List.mem_cons.1 hs with rfl | hs
      · exact Decidable.of_not_not hn
      · exact ckSis_mem h s hs
theorem zer_ok {v : Vg} (h : ckV v = 0) : Zer v := by
  intro s hs hl
  have h1 : ckSs v.ss = 0 := by
    unfold ckV at h
    split at h
    · rename_i hn; exact absurd h hn
    split at h
    · rename_i hn; exact absurd h hn
    split at h
    · cases h
    split at h
    · rename_i hn; exact absurd h hn
    · rename_i hn; exact Decidable.of_not_not hn
  have h2 : ckSis v.ss = 0 := by
    unfold ckSs at h1
    split at h1
    · cases h1
    · exact h1
  have h3 := ckSis_mem h2 s hs
  have h4 : ckLl s.lv = 0 := by
    unfold ckSi at h3
    split at h3
    · rename_i hn; exact absurd h3 hn
    · exact h3
  have h5 : ckLvs none s.lv = 0 := by
    unfold ckLl at h4
    split at h4
    · cases h4
    split at h4
    · cases h4
    · exact h4
  obtain ⟨l, r, hL⟩ : ∃ l r, s.lv = l :: r := by
    cases hL : s.lv with
    | nil => rw [hL] at hl; simp at hl
    | cons l r => exact ⟨l, r, rfl⟩
  have h0 : s.lv[0].fr = l.fr := by simp [hL]
  rw [h0]
  rw [hL] at h5
  unfold ckLvs at h5
  have h6 : ckLv none l = 0 := by
    split at h5
    · rename_i hn; exact absurd h5 hn
    · rename_i hn; exact Decidable.of_not_not hn
  unfold ckLv at h6
  split at h6
  · cases h6
  · dsimp only at h6
    split at h6
    · cases h6
    · rename_i hn
      exact Decidable.of_not_not hn
/-- No moment before a level is deep enough. -/
def NoEarly (L : List Lv) (g : Bool) (needs comes : Int) (i : Nat) : Prop := ∀ m, comes ≤ m → m ≤ 2880 → (∀ h : i < L.length, m < L[i].fr) → decide (needs ≤ 1000 * dpt (lvL L g) m) = false
theorem noEarly_zero {L : List Lv} {g : Bool} {needs comes : Int} (hl : 0 < L.length) (hz : L[0].fr = 0) (hc : 0 ≤ comes) : NoEarly L g needs comes 0 := by
  intro m h1 h2 h3
  have := h3 hl
  omega
theorem noEarly_succ {L : List Lv} (ha : L.Pairwise fun x y => x.fr < y.fr) {g : Bool} {needs comes : Int} {i : Nat} (hi : i < L.length) (h : NoEarly L g needs comes i) {la : Int} (hla : (∀ h : i + 1 < L.length, la = L[i + 1].fr - 1) ∧ (¬ i + 1 < L.length → la = 2880))
    (hn : ¬ (max comes L[i].fr ≤ la ∧ needs ≤ 1000 * (if g then L[i].d1 else L[i].d0))) : NoEarly L g needs comes (i + 1) := by
  intro m h1 h2 h3
  by_cases hm : m < L[i].fr
  · exact h m h1 h2 (fun _ => hm)
  · rw [dpt_lev ha hi (by omega) h3]
    refine decide_eq_false fun hx => hn ⟨?_, hx⟩
    by_cases h4 : i + 1 < L.length
    · have := h3 h4
      have := hla.1 h4
      omega
    · have := hla.2 h4
      omega
theorem over_here {L : List Lv} (ha : L.Pairwise fun x y => x.fr < y.fr) (hfr : ∀ l ∈ L, l.fr ≤ 2880) {g : Bool} {needs comes : Int} {i : Nat} (hi : i < L.length) (h : NoEarly L g needs comes i) {la : Int} (hla : (∀ h : i + 1 < L.length, la = L[i + 1].fr - 1) ∧ (¬ i + 1 < L.length → la = 2880))
    (hn : max comes L[i].fr ≤ la ∧ needs ≤ 1000 * (if g then L[i].d1 else L[i].d0)) : ovr (fun m => decide (needs ≤ 1000 * dpt (lvL L g) m)) comes = some (max comes L[i].fr) := by
  have h5 : la ≤ 2880 := by
    by_cases h4 : i + 1 < L.length
    · have := hla.1 h4
      have := hfr _ (List.getElem_mem h4)
      omega
    · have := hla.2 h4; omega
  refine ovr_some.2 ⟨by omega, by omega, ?_, fun k hk1 hk2 => h k hk1 (by omega) (fun _ => by omega)⟩
  refine decide_eq_true ?_
  rw [dpt_lev ha hi (by omega) (fun h4 => by have := hla.1 h4; omega)]
  exact hn.2
theorem over_none {L : List Lv} {g : Bool} {needs comes : Int} (h : NoEarly L g needs comes L.length) : ovr (fun m => decide (needs ≤ 1000 * dpt (lvL L g) m)) comes = none := by
  cases ho : ovr (fun m => decide (needs ≤ 1000 * dpt (lvL L g) m)) comes with
  | none => rfl
  | some m =>
    obtain ⟨h1, h2, h3, _⟩ := ovr_some.1 ho
    have := h m h1 h2 (fun hx => by omega)
    rw [this] at h3
    cases h3
def oI (o : Option Int) : Int := match o with | some m => m | none => -1
set_option maxRecDepth 100000 in
set_option maxHeartbeats 4000000 in
theorem refOver_any (s : Si) (G : Option Addr) (gn gc : Nat) (A : Option Addr) (dc : Nat) (g : Bool) (comes needs : Int) (w : World) (ho : s.Ok) (hz : ∀ h : 0 < s.lv.length, s.lv[0].fr = 0) (hl : s.lv.length = gn) (hG0 : Sl w w.heap.size 3 G (s.lv.map lvr)) (hA0 : Sl w w.heap.size 1 A (inr (s.lv.map fun l => if g then l.d1 else l.d0))) (hc : 0 ≤ comes ∧ comes ≤ 10000) (hnd : 0 ≤ needs ∧ needs ≤ 1000000000) :
    Calls Try.prog 105 #[.agg #[.int .i64 s.t0, .int .i64 s.t1, .slice G gn gc], .slice A gn dc, .int .i64 comes, .int .i64 needs] w fun e w' => e = .returned (.int .i64 (oI (ovr (fun m => decide (needs ≤ 1000 * dpt (lvL s.lv g) m)) comes))) ∧ Below w.heap.size w w' := by
  have k1 := Bx.new w 73 #[.int .i64 s.t0, .int .i64 s.t1, .slice G gn gc]
  have B0 := (Below.refl w.heap.size w).alloc (Nat.le_refl _) (.cells #[.int .i64 s.t0, .int .i64 s.t1, .slice G gn gc] 73)
  obtain ⟨V, hV⟩ : ∃ V, w.alloc (.cells #[.int .i64 s.t0, .int .i64 s.t1, .slice G gn gc] 73) = V := ⟨_, rfl⟩
  have hG := (hG0.below B0).more B0.size
  have hA := (hA0.below B0).more B0.size
  rw [hV] at k1 B0 hG hA
  have HV := Lib.hid hV
  have hgn6 : gn ≤ 6 := by rw [← hl]; exact ho.l6
  have hgn1 : 1 ≤ gn := by rw [← hl]; exact ho.l1
  have HN0 := Lib.hid (noEarly_zero (g := g) (needs := needs) (comes := comes) (L := s.lv) (by have := ho.l1; omega) (hz (by have := ho.l1; omega)) hc.1)
  have HO := Lib.hid ho
  have HL := Lib.hid hl
  clear hV hG0 hA0 ho hz hl
  obtain ⟨l0, l1, l2, lf', lz⟩ := k1.three'
  go_enter Try.func105, Try.ntmps105
  go_upto_region 1 with fail
  rw [HV.out]
  go_wp2_with fail
  go_loopw [9, 10, 11] (fun i _ _ wr => ∃ k : Nat, i = .int .i64 k ∧ k ≤ gn ∧ Hid (NoEarly s.lv g needs comes k) ∧ wr = V) (fun i _ _ _ => gn - (intOf i).toNat)
  case atStart => exact ⟨0, rfl, by omega, HN0, rfl⟩
  case round =>
    obtain ⟨k, rfl, hk, hne, rfl⟩ := hrel
    by_cases hkn : k < gn
    · have hkl : k < s.lv.length := by rw [HL.out]; exact hkn
      have hkw : IntKind.i64.wrap ((k : Int) + 1) = (k : Int) + 1 := IntWalk.i64_in _ (by omega)
      have hok := HO.out.lv _ (List.getElem_mem hkl)
      obtain ⟨ad, rfl, hga, p0, p1, p2⟩ := lv_at hG hkl
      obtain ⟨ae, rfl, hge, q0⟩ := inr_at (k := k) hA (by rw [List.length_map]; exact hkl)
      rw [List.getElem_map] at q0
      obtain ⟨f, hf⟩ : ∃ x, s.lv[k].fr = x := ⟨_, rfl⟩
      obtain ⟨d, hd⟩ : ∃ x, (if g then s.lv[k].d1 else s.lv[k].d0) = x := ⟨_, rfl⟩
      have hdb : 0 ≤ d ∧ d ≤ 10000 := by
        subst hd
        have h1 := hok.d0; have h2 := hok.d01; have h3 := hok.d1
        cases g
        · simp; omega
        · simp; omega
      have hfb : 0 ≤ f ∧ f ≤ 2880 := by subst hf; exact hok.fr
      have hdw : IntKind.i64.wrap (1000 * d) = 1000 * d := IntWalk.i64_in _ (by omega)
      rw [hf] at p0
      rw [hd] at q0
      have HF := Lib.hid hf
      have HD := Lib.hid hd
      clear hf hd hok p1 p2
      go_upto_if 24 with fail
      go_cut [10] from 24 to 54 (fun v10 x => ∃ la : Int, v10 = .int .i64 la ∧ 0 ≤ la + 1 ∧ la ≤ 2880 ∧ Hid ((∀ h : k + 1 < s.lv.length, la = s.lv[k + 1].fr - 1) ∧ (¬ k + 1 < s.lv.length → la = 2880)) ∧ x = wr)
      case first =>
        by_cases hk1 : k + 1 < gn
        · have hk1l : k + 1 < s.lv.length := by rw [HL.out]; exact hk1
          obtain ⟨ae2, hae2, -, g0, -, -⟩ := lv_at hG hk1l
          have hgo := HO.out.lv _ (List.getElem_mem hk1l)
          obtain ⟨f2, hf2⟩ : ∃ x, s.lv[k + 1].fr = x := ⟨_, rfl⟩
          have hfb2 : 0 ≤ f2 ∧ f2 ≤ 2880 := by subst hf2; exact hgo.fr
          rw [hf2] at g0
          have HF2 := Lib.hid hf2
          have hw2 : IntKind.i64.wrap (f2 - 1) = f2 - 1 := IntWalk.i64_in _ (by omega)
          have d1 : decide ((k : Int) + 1 < (gn : Int)) = true := decide_eq_true (by omega)
          have hkt : ((k : Int) + 1).toNat = k + 1 := by omega
          rw [d1]
          clear hf2
          simp only [Option.some.injEq] at hae2
          subst hae2
          go_wp2_with fail
          go_meet
          exact ⟨f2 - 1, rfl, by omega, by omega, Lib.hid ⟨fun _ => by rw [HF2.out], fun h => absurd hk1l h⟩, rfl⟩
        · have d1 : decide ((k : Int) + 1 < (gn : Int)) = false := decide_eq_false (by omega)
          rw [d1]
          go_wp2_with fail
          go_meet
          exact ⟨2880, rfl, by omega, by omega, Lib.hid ⟨fun h => absurd (by rw [HL.out] at h; exact h) hk1, fun _ => rfl⟩, rfl⟩
      case rest =>
        obtain ⟨la, rfl, hla0, hla1, hla, rfl⟩ := hcut
        go_upto_region 8 with fail
        obtain ⟨m, hm⟩ : ∃ x, (if comes < f then f else comes) = x := ⟨_, rfl⟩
        rw [hm]
        have hmx : max comes f = m := by rw [← hm]; split <;> omega
        have HM := Lib.hid hmx
        have hmb : 0 ≤ m ∧ m ≤ 10000 := by omega
        clear hm hmx
        by_cases hP : m ≤ la
        · have d1 : decide (m ≤ la) = true := decide_eq_true hP
          by_cases hQ : needs ≤ 1000 * d
          · have d2 : decide (needs ≤ 1000 * d) = true := decide_eq_true hQ
            have HE := Lib.hid (over_here HO.out.asc (fun l hl => (HO.out.lv l hl).fr.2) hkl hne.out hla.out (needs := needs) (comes := comes) (g := g) (by rw [HF.out, HD.out, HM.out]; exact ⟨hP, hQ⟩))
            clear hP hQ
            go_wp2_with fail
            go_ret
            exact ⟨by rw [HE.out, HF.out, HM.out]; rfl, B0⟩
          · have d2 : decide (needs ≤ 1000 * d) = false := decide_eq_false hQ
            have HN := Lib.hid (noEarly_succ HO.out.asc hkl hne.out hla.out (needs := needs) (comes := comes) (g := g) (by rw [HF.out, HD.out, HM.out]; exact fun h => hQ h.2))
            clear hQ hP
            go_wp2_with fail
            go_roundw
            case rel => exact ⟨k + 1, by go_num, by omega, HN, by trivial⟩
            case measure => simp [intOf]; omega
        · have d1 : decide (m ≤ la) = false := decide_eq_false hP
          have HN := Lib.hid (noEarly_succ HO.out.asc hkl hne.out hla.out (needs := needs) (comes := comes) (g := g) (by rw [HF.out, HD.out, HM.out]; exact fun h => hP h.1))
          clear hP
          go_wp2_with fail
          go_roundw
          case rel => exact ⟨k + 1, by go_num, by omega, HN, by trivial⟩
          case measure => simp [intOf]; omega
    · obtain rfl : k = gn := by omega
      have hend : ovr (fun m => decide (needs ≤ 1000 * dpt (lvL s.lv g) m)) comes = none := over_none (by rw [HL.out]; exact hne.out)
      have HE := Lib.hid hend
      clear hend
      go_wp2_with fail
      go_ret
      exact ⟨by rw [HE.out]; rfl, B0⟩
def dOf (g : Bool) (l : Lv) : Int := if g then l.d1 else l.d0
set_option maxRecDepth 100000 in
set_option maxHeartbeats 4000000 in
theorem refDepths_true (s : Si) (G : Option Addr) (gn gc : Nat) (w : World) (hl : s.lv.length = gn) (hgn6 : gn ≤ 6) (hG0 : Sl w w.heap.size 3 G (s.lv.map lvr)) :
    Calls Try.prog 106 #[.agg #[.int .i64 s.t0, .int .i64 s.t1, .slice G gn gc], .bool true] w fun e w' => (∃ A c, e = .returned (.slice A gn c) ∧ w'.ownsRow w.heap.size 3 1 (.slice A gn c) gn (inr (s.lv.map (dOf true))).flatten) ∧ Below w.heap.size w w' := by
  have k0 := Bx.new w 73 #[.int .i64 s.t0, .int .i64 s.t1, .slice G gn gc]
  have B0 := (Below.refl w.heap.size w).alloc (Nat.le_refl _) (.cells #[.int .i64 s.t0, .int .i64 s.t1, .slice G gn gc] 73)
  have HL := Lib.hid hl
  have hG := hG0
  obtain ⟨i3, hi3, hz3, hs3, iy3⟩ := info_parts info3'
  obtain ⟨W1, hW1⟩ : ∃ x, w.alloc (.cells #[.int .i64 s.t0, .int .i64 s.t1, .slice G gn gc] 73) = x := ⟨_, rfl⟩
  have HW := Lib.hid hW1
  rw [hW1] at k0 B0
  clear hW1 hl hG0
  go_enter Try.func106, Try.ntmps106
  go_upto_region 1 with fail
  rw [HW.out]
  go_wp2_with fail
  go_loopw [5, 6] (fun lv i wr => ∃ (k : Nat) (X : Option Addr) (c : Nat) (L : List Int), k ≤ gn ∧ i = .int .i64 k ∧ lv = .slice X k c ∧ Hid (L = (s.lv.take k).map (dOf true)) ∧ wr.ownsRow w.heap.size 3 1 (.slice X k c) k (inr L).flatten ∧ Below w.heap.size w wr ∧ Bx wr w.heap.size 73 #[.int .i64 s.t0, .int .i64 s.t1, .slice G gn gc]) (fun _ i _ => gn - (intOf i).toNat)
  case atStart => exact ⟨0, none, 0, [], by omega, rfl, rfl, Lib.hid rfl, World.ownsRow_nil _ _ _ _, B0, k0⟩
  case round =>
    clear k0 B0
    obtain ⟨k, X, c, L, hk, rfl, rfl, HLK, oL, hB, kr⟩ := hrel
    obtain ⟨l0, l1, l2, lf', lz⟩ := kr.three'
    by_cases hkn : k < gn
    · have hke : k < s.lv.length := by rw [HL.out]; exact hkn
      obtain ⟨ad, hGA, _, q0, q1, q2⟩ := lv_at ((hG.below hB).more hB.size) hke
      have htk := List.take_succ_eq_append_getElem hke
      generalize s.lv[k] = b at *
      rw [hGA] at l2
      have HGA := Lib.hid hGA
      have HTK := Lib.hid htk
      have hiw : IntKind.i64.wrap ((k : Int) + 1) = (k : Int) + 1 := IntWalk.i64_in _ (by omega)
      have kn := Bx.new wr 3 #[.int .i64 b.d1]
      have oL1 := oL.alloc (.cells #[.int .i64 b.d1] 3)
      have hB1 := hB.alloc hB.size (.cells #[.int .i64 b.d1] 3)
      have k1 := kr.alloc (.cells #[.int .i64 b.d1] 3)
      have hBs := hB1.size
      clear hGA htk hke
      go_wp2_with (first
        | (at_builtin; refine wpList_append_own _ rfl (.tmp 15) (.tmp 23) 27 rfl w.heap.size 3 i3 _ 1 8 Try.underlying27 hi3 hz3 hs3 iy3 rfl (by decide) (.slice X k c) k (inr L).flatten rfl oL1 ⟨wr.heap.size, 0, none⟩ 1 1 [.int .i64 b.d1] rfl rfl (bx_news kn) (by simp [Value.oneCell']) (by unfold maxLen; omega) (by omega) (by omega) ?_; intro v' w' o1 o2 o3; obtain ⟨X', x', rfl⟩ := own_shape o1)
        | fail)
      have HL2 := Lib.hid (show L ++ [b.d1] = (s.lv.take (k + 1)).map (dOf true) by rw [HLK.out, HTK.out]; simp [dOf])
      go_roundw
      case rel => exact ⟨k + 1, X', x', _, by omega, by go_num, rfl, HL2, by rw [inr_snoc]; exact o1, hB1.grown o2 hB1.size (fun i e => (oL1.lt i e).1), k1.grown o2 (own_bx oL1 k1 (by decide))⟩
      case measure => simp [intOf]; omega
    · obtain rfl : k = gn := by omega
      have e : L = s.lv.map (dOf true) := by rw [HLK.out, ← HL.out, List.take_length]
      go_wp2_with fail
      go_ret
      exact ⟨⟨X, c, rfl, by rw [← e]; exact oL⟩, hB⟩
set_option maxRecDepth 100000 in
set_option maxHeartbeats 4000000 in
theorem refDepths_false (s : Si) (G : Option Addr) (gn gc : Nat) (w : World) (hl : s.lv.length = gn) (hgn6 : gn ≤ 6) (hG0 : Sl w w.heap.size 3 G (s.lv.map lvr)) :
    Calls Try.prog 106 #[.agg #[.int .i64 s.t0, .int .i64 s.t1, .slice G gn gc], .bool false] w fun e w' => (∃ A c, e = .returned (.slice A gn c) ∧ w'.ownsRow w.heap.size 3 1 (.slice A gn c) gn (inr (s.lv.map (dOf false))).flatten) ∧ Below w.heap.size w w' := by
  have k0 := Bx.new w 73 #[.int .i64 s.t0, .int .i64 s.t1, .slice G gn gc]
  have B0 := (Below.refl w.heap.size w).alloc (Nat.le_refl _) (.cells #[.int .i64 s.t0, .int .i64 s.t1, .slice G gn gc] 73)
  have HL := Lib.hid hl
  have hG := hG0
  obtain ⟨i3, hi3, hz3, hs3, iy3⟩ := info_parts info3'
  obtain ⟨W1, hW1⟩ : ∃ x, w.alloc (.cells #[.int .i64 s.t0, .int .i64 s.t1, .slice G gn gc] 73) = x := ⟨_, rfl⟩
  have HW := Lib.hid hW1
  rw [hW1] at k0 B0
  clear hW1 hl hG0
  go_enter Try.func106, Try.ntmps106
  go_upto_region 1 with fail
  rw [HW.out]
  go_wp2_with fail
  go_loopw [5, 6] (fun lv i wr => ∃ (k : Nat) (X : Option Addr) (c : Nat) (L : List Int), k ≤ gn ∧ i = .int .i64 k ∧ lv = .slice X k c ∧ Hid (L = (s.lv.take k).map (dOf false)) ∧ wr.ownsRow w.heap.size 3 1 (.slice X k c) k (inr L).flatten ∧ Below w.heap.size w wr ∧ Bx wr w.heap.size 73 #[.int .i64 s.t0, .int .i64 s.t1, .slice G gn gc]) (fun _ i _ => gn - (intOf i).toNat)
  case atStart => exact ⟨0, none, 0, [], by omega, rfl, rfl, Lib.hid rfl, World.ownsRow_nil _ _ _ _, B0, k0⟩
  case round =>
    clear k0 B0
    obtain ⟨k, X, c, L, hk, rfl, rfl, HLK, oL, hB, kr⟩ := hrel
    obtain ⟨l0, l1, l2, lf', lz⟩ := kr.three'
    by_cases hkn : k < gn
    · have hke : k < s.lv.length := by rw [HL.out]; exact hkn
      obtain ⟨ad, hGA, _, q0, q1, q2⟩ := lv_at ((hG.below hB).more hB.size) hke
      have htk := List.take_succ_eq_append_getElem hke
      generalize s.lv[k] = b at *
      rw [hGA] at l2
      have HGA := Lib.hid hGA
      have HTK := Lib.hid htk
      have hiw : IntKind.i64.wrap ((k : Int) + 1) = (k : Int) + 1 := IntWalk.i64_in _ (by omega)
      have kn := Bx.new wr 3 #[.int .i64 b.d0]
      have oL1 := oL.alloc (.cells #[.int .i64 b.d0] 3)
      have hB1 := hB.alloc hB.size (.cells #[.int .i64 b.d0] 3)
      have k1 := kr.alloc (.cells #[.int .i64 b.d0] 3)
      have hBs := hB1.size
      clear hGA htk hke
      go_wp2_with (first
        | (at_builtin; refine wpList_append_own _ rfl (.tmp 25) (.tmp 33) 27 rfl w.heap.size 3 i3 _ 1 8 Try.underlying27 hi3 hz3 hs3 iy3 rfl (by decide) (.slice X k c) k (inr L).flatten rfl oL1 ⟨wr.heap.size, 0, none⟩ 1 1 [.int .i64 b.d0] rfl rfl (bx_news kn) (by simp [Value.oneCell']) (by unfold maxLen; omega) (by omega) (by omega) ?_; intro v' w' o1 o2 o3; obtain ⟨X', x', rfl⟩ := own_shape o1)
        | fail)
      have HL2 := Lib.hid (show L ++ [b.d0] = (s.lv.take (k + 1)).map (dOf false) by rw [HLK.out, HTK.out]; simp [dOf])
      go_roundw
      case rel => exact ⟨k + 1, X', x', _, by omega, by go_num, rfl, HL2, by rw [inr_snoc]; exact o1, hB1.grown o2 hB1.size (fun i e => (oL1.lt i e).1), k1.grown o2 (own_bx oL1 k1 (by decide))⟩
      case measure => simp [intOf]; omega
    · obtain rfl : k = gn := by omega
      have e : L = s.lv.map (dOf false) := by rw [HLK.out, ← HL.out, List.take_length]
      go_wp2_with fail
      go_ret
      exact ⟨⟨X, c, rfl, by rw [← e]; exact oL⟩, hB⟩
theorem refDepths_any (s : Si) (G : Option Addr) (gn gc : Nat) (g : Bool) (w : World) (hl : s.lv.length = gn) (hgn6 : gn ≤ 6) (hG0 : Sl w w.heap.size 3 G (s.lv.map lvr)) :
    Calls Try.prog 106 #[.agg #[.int .i64 s.t0, .int .i64 s.t1, .slice G gn gc], .bool g] w fun e w' => (∃ A c, e = .returned (.slice A gn c) ∧ w'.ownsRow w.heap.size 3 1 (.slice A gn c) gn (inr (s.lv.map (dOf g))).flatten) ∧ Below w.heap.size w w' := by
  cases g
  · exact refDepths_false s G gn gc w hl hgn6 hG0
  · exact refDepths_true s G gn gc w hl hgn6 hG0
end Go.Proofs.Ytfcpjkofbejleaa
