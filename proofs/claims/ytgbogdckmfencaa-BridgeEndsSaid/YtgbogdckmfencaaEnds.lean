/- For every list of numbers BridgeEnds returns true and leaves its argument as it was. No condition. -/
import Derived.Test.YtgbogdckmfencaaTs
import Derived.Test.YtgbogdckmfencaaEnA
import Derived.Test.YtgbogdckmfencaaRows
import Derived.ProofKit
import Derived.SizedLaws
set_option linter.unusedSimpArgs false
set_option linter.unusedVariables false
namespace Go.Proofs.Ytgbogdckmfencaa
open Go Go.RowKit
def atD (N : List Int) (x : Int) : Int := match N[x.toNat]? with
  | some y => y
  | none => 0
theorem sumD_bd {N l : List Int} (hb : ∀ y ∈ N, 0 ≤ y ∧ y ≤ 50000) : 0 ≤ (l.map (atD N)).sum ∧ (l.map (atD N)).sum ≤ (l.length : Int) * 50000 := by
  induction l with
  | nil => simp
  | cons a r ih =>
    have ha : 0 ≤ atD N a ∧ atD N a ≤ 50000 := by
      unfold atD
      cases hv : N[a.toNat]? with
      | none => dsimp only; omega
      | some y => exact hb y (List.mem_of_getElem? hv)
    rw [List.map_cons, List.sum_cons, List.length_cons]
    push_cast
    omega
set_option maxRecDepth 100000 in
set_option maxHeartbeats 2000000 in
theorem sumOf_any (A : Option Addr) (n c : Nat) (l : List Int) (NA : Option Addr) (k NC : Nat) (N : List Int) (w : World) (hn : n ≤ 4) (hk14 : k ≤ 14) (hl : l.length = n) (hN : N.length = k) (hA : Sl w w.heap.size 1 A (ints l)) (hNA : Sl w w.heap.size 1 NA (ints N)) (hm : ∀ x ∈ l, 0 ≤ x ∧ x < (k : Int)) (hb : ∀ y ∈ N, 0 ≤ y ∧ y ≤ 50000) :
    Calls Try.prog 43 #[.slice A n c, .slice NA k NC] w fun e w' => e = .returned (.int .i64 (l.map (atD N)).sum) ∧ w = w' := by
  have HL := Lib.hid hl
  have HN := Lib.hid hN
  have HM := Lib.hid hm
  have HB := Lib.hid hb
  clear hl hN hm hb
  go_enter Try.func43, Try.ntmps43
  go_wp2_with fail
  go_loopw [5, 6] (fun v5 v6 wr => ∃ i : Nat, i ≤ n ∧ v6 = .int .i64 i ∧ v5 = .int .i64 ((l.take i).map (atD N)).sum ∧ w = wr) (fun _ v6 _ => n - (intOf v6).toNat)
  case atStart => exact ⟨0, by omega, rfl, by simp, rfl⟩
  case round =>
    obtain ⟨i, hi, rfl, rfl, rfl⟩ := hrel
    by_cases hin : i < n
    · have hil : i < l.length := by rw [HL.out]; exact hin
      obtain ⟨r, hr⟩ := Int.eq_ofNat_of_zero_le (HM.out l[i] (List.getElem_mem hil)).1
      have hrk : r < k := by have := (HM.out l[i] (List.getElem_mem hil)).2; omega
      have hrN : r < N.length := by rw [HN.out]; exact hrk
      obtain ⟨a, rfl, hab, p0⟩ := ints_at hA hil
      obtain ⟨b, rfl, hbb, q0⟩ := ints_at hNA hrN
      rw [hr] at p0
      have hs := sumD_bd (l := l.take i) HB.out
      have hy := HB.out N[r] (List.getElem_mem hrN)
      have hlen : ((l.take i).length : Int) ≤ 4 := by rw [List.length_take]; omega
      have hst : ((l.take (i + 1)).map (atD N)).sum = ((l.take i).map (atD N)).sum + N[r] := by
        rw [List.take_succ_eq_append_getElem hil, List.map_append, List.sum_append]
        have : atD N l[i] = N[r] := by unfold atD; rw [hr, Int.toNat_natCast, List.getElem?_eq_getElem hrN]
        simp [this]
      have HST := Lib.hid hst
      obtain ⟨y, hyy⟩ : ∃ y, N[r] = y := ⟨_, rfl⟩
      rw [hyy] at hy HST q0
      obtain ⟨T, hT⟩ : ∃ T, ((l.take i).map (atD N)).sum = T := ⟨_, rfl⟩
      rw [hT] at hs HST ⊢
      have hw : IntKind.i64.wrap (T + y) = T + y := IntWalk.i64_in _ (by omega)
      clear hst hyy hT
      go_wp2_with fail
      go_roundw
      case rel => exact ⟨i + 1, by omega, by go_num, by rw [HST.out], trivial⟩
      case measure => simp [intOf]; omega
    · obtain rfl : i = n := by omega
      have ht : l.take i = l := List.take_of_length_le (by rw [HL.out]; exact Nat.le_refl _)
      rw [ht]
      go_wp2_with fail
      go_ret
      exact ⟨rfl, rfl⟩
theorem truths_all (st z0 z1 : Int) (k EC : Nat) (EA : Option Addr) (es : List Ev) (b : Nat) (hel : es.length = k) (hk : k ≤ 14) (ho : ∀ e ∈ es, EvOk e) (hcw : ∀ e ∈ es, e.c1 ≤ e.c0 + 2) (hz0 : -200 ≤ z0) (hz01 : z0 ≤ z1) (hz1 : z1 ≤ 200) (hzw : z1 ≤ z0 + 3) (hs1 : 1 ≤ st) (hs2 : st ≤ 100) : ∀ d, TruthsAt st z0 z1 k EC EA es b d := by
  intro d
  induction d with
  | zero => exact truths_zero st z0 z1 k EC EA es b hel hk
  | succ d ih => exact truths_succ st z0 z1 k EC EA es b d hel hk ho hcw hz0 hz01 hz1 hzw hs1 hs2 ih
theorem truths_run (st z0 z1 : Int) (k EC : Nat) (EA : Option Addr) (es : List Ev) (W : World) (hel : es.length = k) (hk : k ≤ 4) (ho : ∀ e ∈ es, EvOk e) (hcw : ∀ e ∈ es, e.c1 ≤ e.c0 + 2) (hz0 : -200 ≤ z0) (hz01 : z0 ≤ z1) (hz1 : z1 ≤ 200) (hzw : z1 ≤ z0 + 3) (hs1 : 1 ≤ st) (hs2 : st ≤ 100) (hE : EvsAt W W.heap.size EA es) :
    Calls Try.prog 45 #[.agg #[.int .i64 st, .int .i64 z0, .int .i64 z1, .slice EA k EC], .agg #[.slice none 0 0, .slice none 0 0], .int .i64 30, .slice none 0 0] W fun e w' => (∃ (VA : Option Addr) (n' VC : Nat), e = .returned (.slice VA n' VC) ∧ Facts w' W.heap.size (.slice VA n' VC) n' (exs st z0 z1 30 es es.length ([], []))) ∧ Below W.heap.size W w' := by
  have h := truths_all st z0 z1 k EC EA es W.heap.size hel (by omega) ho hcw hz0 hz01 hz1 hzw hs1 hs2 k [] [] none 0 none 0 (.slice none 0 0) 0 [] W (by simp) rfl (Nat.le_refl _) hE ⟨none, 0, none, 0, rfl, World.ownsRow_nil _ _ _ _, World.ownsRow_nil _ _ _ _⟩ (by simp) (Facts.nil _ _) (by have := Nat.pow_le_pow_right (show 0 < 300 by omega) hk; omega)
  refine h.mono ?_
  rintro e w' ⟨v, n, a, b, c, d⟩
  obtain ⟨xs, hx⟩ := b.own
  obtain ⟨VA, VC, rfl⟩ := own_shape hx
  refine ⟨⟨VA, n, VC, a, ?_⟩, (Below.refl _ W).grown c (Nat.le_refl _) (fun k e => by simp [Value.ownBlock] at e)⟩
  rw [hel]
  simpa using b
theorem clean0 (n : Int) : cleanOf n 0 = if 0 < n then n else 0 := by
  unfold cleanOf
  rw [Int.sub_zero, Int.mul_ediv_cancel _ (by omega)]
  split <;> omega
theorem Facts.fd {g : Nat} {w x : World} {b n : Nat} {v : Value} {L : List (List Int × List Int)} (h : Facts w b v n L) (hf : Fd g w) (hgr : w.grownBy x (some g)) : Facts x b v n L := by
  obtain ⟨rs, h1, h2, h3, h4⟩ := h.rows
  refine ⟨rs, own_fd h1 hf hgr (by decide), h2, h3, fun j r p hr hp => ?_⟩
  obtain ⟨ZA, zc, NA, nc, e, o1, o2⟩ := h4 j r p hr hp
  exact ⟨ZA, zc, NA, nc, e, own_fd o1 hf hgr (by decide), own_fd o2 hf hgr (by decide)⟩
/-- What is at a number of a row of facts. -/
theorem fact_zero {w : World} {b n c k : Nat} {A : Option Addr} {L : List (List Int × List Int)} (h : Facts w b (.slice A n c) n L) (hL : ∀ p ∈ L, p.1.length = k ∧ p.2.length = k) {j i : Nat} (hj : j < n) (hi : i < k) : ∃ (q : Nat) (za : Addr) (zc : Nat), A = some ⟨q, 0, none⟩ ∧ q < w.heap.size ∧ za.block < w.heap.size ∧ w.cell? ⟨q, j * 2, none⟩ = some (.slice (some za) k zc) ∧ w.cell? (za.add i) = some (.int .i64 (zvF L i j)) := by
  obtain ⟨q, ZA, zc, NA, nc, p, h1, h2, h3, h4, h5, h6, h7⟩ := h.at_ hj
  obtain ⟨l1, l2⟩ := hL p (List.mem_of_getElem? h2)
  obtain ⟨za, rfl, hb, hc⟩ := ints_at h5 (k := i) (by omega)
  rw [l1] at h3
  refine ⟨q, za, zc, h1, h7, hb, h3, ?_⟩
  rw [hc]
  unfold zvF
  rw [h2]
  dsimp only
  rw [atF_get (by omega)]
theorem fact_loads {w : World} {b n c k : Nat} {A : Option Addr} {L : List (List Int × List Int)} (h : Facts w b (.slice A n c) n L) (hL : ∀ p ∈ L, p.1.length = k ∧ p.2.length = k) {j : Nat} (hj : j < n) : ∃ (q : Nat) (NA : Option Addr) (nc : Nat) (p : List Int × List Int), A = some ⟨q, 0, none⟩ ∧ q < w.heap.size ∧ p ∈ L ∧ L[j]? = some p ∧ p.2.length = k ∧ w.cell? ⟨q, j * 2 + 1, none⟩ = some (.slice NA k nc) ∧ Sl w w.heap.size 1 NA (ints p.2) := by
  obtain ⟨q, ZA, zc, NA, nc, p, h1, h2, h3, h4, h5, h6, h7⟩ := h.at_ hj
  obtain ⟨l1, l2⟩ := hL p (List.mem_of_getElem? h2)
  rw [l2] at h4
  exact ⟨q, NA, nc, p, h1, h7, List.mem_of_getElem? h2, h2, l2, h4, h6⟩
set_option maxRecDepth 100000 in
set_option maxHeartbeats 8000000 in
theorem ends_run (A : Option Addr) (n c : Nat) (L : List Int) (w : World) (hn : n ≤ 9000000000000000000) (hl : L.length = n) (hA : Sl w w.heap.size 1 A (ints L)) : Calls Try.prog 7 #[.slice A n c] w fun e w' => e = .returned (.bool true) ∧ Below w.heap.size w w' := by
  have HL := Lib.hid hl
  clear hl
  go_enter Try.func7, Try.ntmps7
  go_upto_region 3 with (first
    | (go_at_call 16; refine (feedOf_any A n c L _ hn HL.out hA).mono ?_; rintro e w1 ⟨⟨g, rfl, hg0, hfd⟩, hb1⟩; have hgl := hfd.lt)
    | (go_at_call 44; refine (small_any g 4 _ hfd (by omega) (by omega)).mono ?_; rintro e w2 ⟨st, z0, z1, z, ts, ev, rfl, ⟨hs1, hs3, hz0, hz01, hz1, hzw⟩, hti, hlen, hoe, hT2⟩; obtain ⟨EA, EC, rfl⟩ := own_shape hoe)
    | fail)
  obtain ⟨k, hk⟩ : ∃ k, ts.length = k := ⟨_, rfl⟩
  have hk4 : k ≤ 4 := by omega
  have hok := hti.allOk hs1 hs3 hz0 hz01 hz1 hzw (by omega)
  obtain ⟨es, hes⟩ : ∃ es, ts.map (·.1) = es := ⟨_, rfl⟩
  have hel : es.length = k := by rw [← hes, List.length_map]; exact hk
  rw [hes] at hok hoe
  rw [hk] at hoe ⊢
  have hBw : Below w.heap.size w w2 := hT2.be hb1 hg0
  have hE0 : EvsAt (w2.alloc (.cells #[.int .i64 st, .int .i64 z0, .int .i64 z1, .slice EA k EC] 26)) (w2.alloc (.cells #[.int .i64 st, .int .i64 z0, .int .i64 z1, .slice EA k EC] 26)).heap.size EA es := ((own_evs2 hoe hel).alloc (Nat.le_refl _) _).more (by simp)
  have hf0 : Fd g (w2.alloc (.cells #[.int .i64 st, .int .i64 z0, .int .i64 z1, .slice EA k EC] 26)) := hT2.2.alloc _
  have hgl2 := hT2.2.lt
  have kL0 := Bx.new w2 26 #[.int .i64 st, .int .i64 z0, .int .i64 z1, .slice EA k EC]
  have hB0 : Below w.heap.size w (w2.alloc (.cells #[.int .i64 st, .int .i64 z0, .int .i64 z1, .slice EA k EC] 26)) := hBw.alloc hBw.size _
  obtain ⟨X0, hX0⟩ : ∃ V, w2.alloc (.cells #[.int .i64 st, .int .i64 z0, .int .i64 z1, .slice EA k EC] 26) = V := ⟨_, rfl⟩
  rw [hX0] at hE0 hf0 kL0 hB0 ⊢
  obtain ⟨bL, hbL⟩ : ∃ b, w2.heap.size = b := ⟨_, rfl⟩
  have hgL : g ≠ bL := by omega
  rw [hbL] at kL0 ⊢
  have HOK := Lib.hid hok
  have HEL := Lib.hid hel
  clear hok hel hoe hT2 hX0 hbL hk hes hti hBw hfd hb1 hgl hgl2 hlen
  obtain ⟨l0, l1, l2, l3, lf, lz⟩ := kL0.four
  go_upto_region 4 with (first | (go_at_call 45; refine (truths_run st z0 z1 k EC EA es _ HEL.out hk4 HOK.out.log.ev HOK.out.cw (by omega) hz01 (by omega) hzw hs1 (by omega) hE0).mono ?_; rintro e x1 ⟨⟨VA, n1, VC, rfl, hFa⟩, hq1⟩) | fail)
  clear l0 l1 l2 l3 lf lz
  obtain ⟨b, hb⟩ : ∃ b, X0.heap.size = b := ⟨_, rfl⟩
  rw [hb] at hFa
  have kL1 := kL0.call hq1
  have hE1 := (Sl.below hE0 hq1).more hq1.size
  have hB1 := hB0.trans (hq1.mono hB0.size)
  have hf1 : Fd g x1 := by obtain ⟨y, h1, h2, h3⟩ := hf0; exact ⟨y, h1, h2, h3.call hq1⟩
  obtain ⟨Lx, hLx⟩ : ∃ l, exs st z0 z1 30 es es.length ([], []) = l := ⟨_, rfl⟩
  rw [hLx] at hFa
  have hLn := hFa.len
  have HLX := Lib.hid hLx
  have HLN := Lib.hid hLn
  clear hb hq1 hE0 hf0 kL0 hB0 hLx hLn
  obtain ⟨l0, l1, l2, l3, lf, lz⟩ := kL1.four
  by_cases hfit : Fits st z0 z1 es k
  case neg =>
    obtain ⟨m, hm⟩ := fits_some st z0 z1 es
    have hmk : m < k := by
      have := hm.le
      rw [HEL.out] at this
      rcases Nat.lt_or_ge m k with h | h
      · exact h
      · exact absurd (show Fits st z0 z1 es k by rw [show k = m by omega]; exact hm) hfit
    have hn0 : n1 = 0 := by
      by_cases h0 : Lx = []
      · have := HLN.out; rw [h0] at this; exact this.symm
      · exact absurd (by have h := exs_fits HOK.out.log HOK.out.md (by rw [HLX.out]; exact h0); rw [HEL.out] at h; exact h) hfit
    have HM := Lib.hid hm
    subst hn0
    clear hm hfit
    go_upto_region 5 with (first | (go_at_call 18; refine (zeros_none st z0 z1 EA k EC es _ HEL.out hE1 HOK.out.ck m HM.out hmk).mono ?_; rintro e x2 ⟨rfl, hq2⟩) | fail)
    go_wp2_with (first | (go_at_call 14; refine (awake_any _).mono ?_; rintro e x3 ⟨rfl, hq3⟩) | fail)
    go_ret
    exact ⟨rfl, (hB1.trans (hq2.mono hB1.size)).trans (hq3.mono (by have := hB1.size; have := hq2.size; omega))⟩
  case pos =>
    have hn1 : 0 < n1 := by
      rcases Nat.eq_zero_or_pos n1 with h | h
      · exfalso
        have hl := HLN.out
        rw [h] at hl
        refine exs_none HOK.out.log HOK.out.md HOK.out.most (by rw [HLX.out]; exact List.eq_nil_of_length_eq_zero hl) ?_
        rw [HEL.out]; exact hfit
      · exact h
    have hn1b : n1 ≤ 10000000000 := by
      have h1 := exs_len (st := st) HOK.out.cw hzw es.length ([], [])
      rw [HLX.out, HLN.out, HEL.out] at h1
      have := Nat.pow_le_pow_right (show 0 < 300 by omega) hk4
      omega
    have HFIT := Lib.hid hfit
    clear hfit
    have hn10 : ((n1 : Int) == 0) = false := by rw [beq_eq_false_iff_ne]; omega
    go_upto_region 5 with (first | (go_at_call 18; refine (zeros_all st z0 z1 EA k EC es _ HEL.out hE1 HOK.out.ck HFIT.out).mono ?_; rintro e x2 ⟨⟨QA, QC, rfl, hQ⟩, hq2⟩) | fail)
    clear l0 l1 l2 l3 lf lz
    have kL2 := kL1.call hq2
    have hE2 := (Sl.below hE1 hq2).more hq2.size
    have hB2 := hB1.trans (hq2.mono hB1.size)
    have hf2 : Fd g x2 := by obtain ⟨y, h1, h2, h3⟩ := hf1; exact ⟨y, h1, h2, h3.call hq2⟩
    have hF2 := hFa.bel hq2
    have hPL : ∀ p ∈ Lx, p.1.length = k ∧ p.2.length = k := fun p hp => by
      have h := exs_loads hs1 HOK.out.md HOK.out.log.ev (by rw [HLX.out]; exact hp)
      rw [HEL.out] at h
      exact ⟨h.1, h.2.1⟩
    have hPN : ∀ p ∈ Lx, ∀ y ∈ p.2, 0 ≤ y ∧ y ≤ 30 := fun p hp => (exs_loads hs1 HOK.out.md HOK.out.log.ev (by rw [HLX.out]; exact hp)).2.2.1
    have HPL := Lib.hid hPL
    have HPN := Lib.hid hPN
    clear kL1 hE1 hB1 hf1 hFa hq2 hPL hPN
    obtain ⟨l0, l1, l2, l3, lf, lz⟩ := kL2.four
    go_wp2_with fail
    clear l0 l1 l2 l3 lf lz
    go_loopw [8] (fun v8 wr => ∃ i : Nat, i ≤ k ∧ v8 = .int .i64 i ∧ Below x2.heap.size x2 wr) (fun v8 _ => k - (intOf v8).toNat)
    case atStart => exact ⟨0, by omega, rfl, Below.refl _ _⟩
    case round =>
      obtain ⟨i, hi, rfl, hB⟩ := hrel
      by_cases hik : i < k
      · obtain ⟨w3, rfl⟩ : ∃ x, x = wr := ⟨_, rfl⟩
        have hF3 := hF2.bel hB
        obtain ⟨q, za, zc, rfl, hq, hza, c0, c1⟩ := fact_zero hF3 HPL.out hn1 hik
        rw [Nat.zero_mul] at c0
        obtain ⟨a, ha⟩ : ∃ a, zvF Lx i 0 = a := ⟨_, rfl⟩
        rw [ha] at c1
        have HC := Lib.hid (And.intro c0 c1)
        have HA := Lib.hid ha
        clear ha c0 c1
        go_upto_region 12 with fail
        go_cut [9] (fun v9 wx => ∃ b9, v9 = .pointer (some ⟨b9, 0, none⟩) ∧ w3.heap.size ≤ b9 ∧ Bx wx b9 23 #[.int .i64 a, .int .i64 a] ∧ Below w3.heap.size w3 wx)
        case first =>
          refine AnyG.startC (by kernel_rfl) ?_
          refine AnyG.takeP (i := 0) (v := ?_) rfl (by kernel_rfl) (fun _ _ _ h => h) rfl ?_ ?_
          rotate_left
          · (intro w'; go_simp; try with_reducible rfl)
          try simp only [Act.put, List.getElem_toArray, List.getElem_cons_succ, List.getElem_cons_zero, List.setIfInBounds_toArray, List.set_cons_zero, List.set_cons_succ]
          refine AnyG.takeP (i := 1) (v := ?_) rfl (by kernel_rfl) (fun _ _ _ h => h) rfl ?_ ?_
          rotate_left
          · (intro w'; go_simp; try with_reducible rfl)
          try simp only [Act.put, List.getElem_toArray, List.getElem_cons_succ, List.getElem_cons_zero, List.setIfInBounds_toArray, List.set_cons_zero, List.set_cons_succ]
          refine AnyG.takeP (i := 2) (v := ?_) rfl (by kernel_rfl) (fun _ _ _ h => h) rfl ?_ ?_
          rotate_left
          · (intro w'; go_simp; try with_reducible rfl)
          try simp only [Act.put, List.getElem_toArray, List.getElem_cons_succ, List.getElem_cons_zero, List.setIfInBounds_toArray, List.set_cons_zero, List.set_cons_succ]
          refine AnyG.takeP (i := 4) (v := ?_) rfl (by kernel_rfl) (fun _ _ _ h => h) rfl ?_ ?_
          rotate_left
          · (intro w'; go_simp; try with_reducible rfl)
          try simp only [Act.put, List.getElem_toArray, List.getElem_cons_succ, List.getElem_cons_zero, List.setIfInBounds_toArray, List.set_cons_zero, List.set_cons_succ]
          refine AnyG.takeP (i := 7) (v := ?_) rfl (by kernel_rfl) (fun _ _ _ h => h) rfl ?_ ?_
          rotate_left
          · (intro w'; go_simp; try with_reducible rfl)
          try simp only [Act.put, List.getElem_toArray, List.getElem_cons_succ, List.getElem_cons_zero, List.setIfInBounds_toArray, List.set_cons_zero, List.set_cons_succ]
          refine AnyG.takeP (i := 8) (v := ?_) rfl (by kernel_rfl) (fun _ _ _ h => h) rfl ?_ ?_
          rotate_left
          · (intro w'; go_simp; try with_reducible rfl)
          try simp only [Act.put, List.getElem_toArray, List.getElem_cons_succ, List.getElem_cons_zero, List.setIfInBounds_toArray, List.set_cons_zero, List.set_cons_succ]
          refine AnyG.takeP (i := 9) (v := ?_) rfl (by kernel_rfl) (fun _ _ _ h => h) rfl ?_ ?_
          rotate_left
          · (intro w'; go_simp; try with_reducible rfl)
          try simp only [Act.put, List.getElem_toArray, List.getElem_cons_succ, List.getElem_cons_zero, List.setIfInBounds_toArray, List.set_cons_zero, List.set_cons_succ]
          refine AnyG.takeP (i := 11) (v := ?_) rfl (by kernel_rfl) (fun _ _ _ h => h) rfl ?_ ?_
          rotate_left
          · (intro w'; go_simp; try with_reducible rfl)
          try simp only [Act.put, List.getElem_toArray, List.getElem_cons_succ, List.getElem_cons_zero, List.setIfInBounds_toArray, List.set_cons_zero, List.set_cons_succ]
          refine AnyG.enter (fun w' : World => Below w3.heap.size w3 w') (fun i => true) ?_
          have hS : (fun w' : World => Below w3.heap.size w3 w') (World.drew _) := (Below.refl _ _).drew
          try dsimp only at hS
          obtain ⟨y0, hy0⟩ : ∃ y, w3.drew = y := ⟨_, rfl⟩
          rw [hy0] at hS ⊢
          clear hy0
          refine AnyG.takeC (i := 3) (v := ?_) rfl (by kernel_rfl) (fun _ _ _ h => h) rfl ?_ hS ?_
          rotate_left
          · (intro w' hSw; (try dsimp only at hSw); have c0 := (hSw.cell (p := ⟨q, 0, none⟩) hq).trans HC.out.1; go_simp; try with_reducible rfl)
          try simp only [Act.put, List.getElem_toArray, List.getElem_cons_succ, List.getElem_cons_zero, List.setIfInBounds_toArray, List.set_cons_zero, List.set_cons_succ]
          refine AnyG.takeC (i := 5) (v := ?_) rfl (by kernel_rfl) (fun _ _ _ h => h) rfl ?_ hS ?_
          rotate_left
          · (intro w' hSw; (try dsimp only at hSw); go_simp; try with_reducible rfl)
          try simp only [Act.put, List.getElem_toArray, List.getElem_cons_succ, List.getElem_cons_zero, List.setIfInBounds_toArray, List.set_cons_zero, List.set_cons_succ]
          refine AnyG.takeC (i := 6) (v := ?_) rfl (by kernel_rfl) (fun _ _ _ h => h) rfl ?_ hS ?_
          rotate_left
          · (intro w' hSw; (try dsimp only at hSw); have c1 := (hSw.cell (p := za.add i) (by rw [add_block]; exact hza)).trans HC.out.2; go_simp; try with_reducible rfl)
          try simp only [Act.put, List.getElem_toArray, List.getElem_cons_succ, List.getElem_cons_zero, List.setIfInBounds_toArray, List.set_cons_zero, List.set_cons_succ]
          refine AnyG.takeC (i := 10) (v := ?_) rfl (by kernel_rfl) (fun _ _ _ h => h) rfl ?_ hS ?_
          rotate_left
          · (intro w' hSw; (try dsimp only at hSw); have c0 := (hSw.cell (p := ⟨q, 0, none⟩) hq).trans HC.out.1; go_simp; try with_reducible rfl)
          try simp only [Act.put, List.getElem_toArray, List.getElem_cons_succ, List.getElem_cons_zero, List.setIfInBounds_toArray, List.set_cons_zero, List.set_cons_succ]
          refine AnyG.takeC (i := 12) (v := ?_) rfl (by kernel_rfl) (fun _ _ _ h => h) rfl ?_ hS ?_
          rotate_left
          · (intro w' hSw; (try dsimp only at hSw); go_simp; try with_reducible rfl)
          try simp only [Act.put, List.getElem_toArray, List.getElem_cons_succ, List.getElem_cons_zero, List.setIfInBounds_toArray, List.set_cons_zero, List.set_cons_succ]
          refine AnyG.takeC (i := 13) (v := ?_) rfl (by kernel_rfl) (fun _ _ _ h => h) rfl ?_ hS ?_
          rotate_left
          · (intro w' hSw; (try dsimp only at hSw); have c1 := (hSw.cell (p := za.add i) (by rw [add_block]; exact hza)).trans HC.out.2; go_simp; try with_reducible rfl)
          try simp only [Act.put, List.getElem_toArray, List.getElem_cons_succ, List.getElem_cons_zero, List.setIfInBounds_toArray, List.set_cons_zero, List.set_cons_succ]
          refine AnyG.all (rs := [14, 15]) (by kernel_rfl) (by simp) ?_
          intro ii hii
          simp only [List.mem_cons, List.not_mem_nil, or_false] at hii
          rcases hii with rfl | rfl
          · refine ⟨_, rfl, rfl, ?_⟩
            go_simp
            refine (rng_any _ _ _).mono ?_
            rintro er y14 ⟨rfl, hq14⟩
            have hSn := hS.trans (hq14.mono hS.size)
            clear hS
            refine Onward.on hSn (fun hS => ?_)
            try dsimp only at hS
            clear hSn
            try simp only [Act.put, List.getElem_toArray, List.getElem_cons_succ, List.getElem_cons_zero, List.setIfInBounds_toArray, List.set_cons_zero, List.set_cons_succ]
            refine AnyG.one (i := 15) (by kernel_rfl) rfl rfl ?_
            go_simp
            have k9 := Bx.new y14 23 #[.int .i64 0, .int .i64 0]
            have hb9 : w3.heap.size ≤ y14.heap.size := hS.size
            have hT := hS.alloc hS.size (.cells #[.int .i64 0, .int .i64 0] 23)
            obtain ⟨y15, hy15⟩ : ∃ y, y14.alloc (.cells #[.int .i64 0, .int .i64 0] 23) = y := ⟨_, rfl⟩
            rw [hy15] at k9 hT ⊢
            clear hy15
            obtain ⟨b9, eb9⟩ : ∃ p, y14.heap.size = p := ⟨_, rfl⟩
            rw [eb9] at k9 hb9 ⊢
            clear eb9
            have hSn := hT
            clear hS
            refine Onward.on hSn (fun hS => ?_)
            try dsimp only at hS
            clear hSn
            try simp only [Act.put, List.getElem_toArray, List.getElem_cons_succ, List.getElem_cons_zero, List.setIfInBounds_toArray, List.set_cons_zero, List.set_cons_succ]
            refine AnyG.one (i := 16) (by kernel_rfl) rfl rfl ?_
            obtain ⟨m0, m1, mf, mz⟩ := k9.two
            go_simp
            have k9n : Bx (World.setCell (World.setCell y15 ⟨b9, 0, none⟩ (.int .i64 a)) ⟨b9, 1, none⟩ (.int .i64 a)) b9 23 #[.int .i64 a, .int .i64 a] := by have := (k9.set_ 0 (.int .i64 a)).set_ 1 (.int .i64 a); simpa using this
            clear m0 m1 mf mz
            have hSn := (hS.setCell hb9 (.int .i64 a) (p := ⟨b9, 0, none⟩)).setCell hb9 (.int .i64 a) (p := ⟨b9, 1, none⟩)
            clear hS
            refine Onward.on hSn (fun hS => ?_)
            try dsimp only at hS
            clear hSn
            try simp only [Act.put, List.getElem_toArray, List.getElem_cons_succ, List.getElem_cons_zero, List.setIfInBounds_toArray, List.set_cons_zero, List.set_cons_succ]
            refine AnyG.done (by kernel_rfl) ?_ _
            go_simp
            go_wp2_with fail
            go_meet
            exact ⟨b9, rfl, hb9, k9n, hS⟩
          · refine ⟨_, rfl, rfl, ?_⟩
            go_simp
            have k9 := Bx.new y0 23 #[.int .i64 0, .int .i64 0]
            have hb9 : w3.heap.size ≤ y0.heap.size := hS.size
            have hT := hS.alloc hS.size (.cells #[.int .i64 0, .int .i64 0] 23)
            obtain ⟨y15, hy15⟩ : ∃ y, y0.alloc (.cells #[.int .i64 0, .int .i64 0] 23) = y := ⟨_, rfl⟩
            rw [hy15] at k9 hT ⊢
            clear hy15
            obtain ⟨b9, eb9⟩ : ∃ p, y0.heap.size = p := ⟨_, rfl⟩
            rw [eb9] at k9 hb9 ⊢
            clear eb9
            have hSn := hT
            clear hS
            refine Onward.on hSn (fun hS => ?_)
            try dsimp only at hS
            clear hSn
            try simp only [Act.put, List.getElem_toArray, List.getElem_cons_succ, List.getElem_cons_zero, List.setIfInBounds_toArray, List.set_cons_zero, List.set_cons_succ]
            refine AnyG.one (i := 14) (by kernel_rfl) rfl rfl ?_
            go_simp
            refine (rng_any _ _ _).mono ?_
            rintro er y14 ⟨rfl, hq14⟩
            replace k9 := k9.call hq14
            have hSn := hS.trans (hq14.mono hS.size)
            clear hS
            refine Onward.on hSn (fun hS => ?_)
            try dsimp only at hS
            clear hSn
            try simp only [Act.put, List.getElem_toArray, List.getElem_cons_succ, List.getElem_cons_zero, List.setIfInBounds_toArray, List.set_cons_zero, List.set_cons_succ]
            refine AnyG.one (i := 16) (by kernel_rfl) rfl rfl ?_
            obtain ⟨m0, m1, mf, mz⟩ := k9.two
            go_simp
            have k9n : Bx (World.setCell (World.setCell y14 ⟨b9, 0, none⟩ (.int .i64 a)) ⟨b9, 1, none⟩ (.int .i64 a)) b9 23 #[.int .i64 a, .int .i64 a] := by have := (k9.set_ 0 (.int .i64 a)).set_ 1 (.int .i64 a); simpa using this
            clear m0 m1 mf mz
            have hSn := (hS.setCell hb9 (.int .i64 a) (p := ⟨b9, 0, none⟩)).setCell hb9 (.int .i64 a) (p := ⟨b9, 1, none⟩)
            clear hS
            refine Onward.on hSn (fun hS => ?_)
            try dsimp only at hS
            clear hSn
            try simp only [Act.put, List.getElem_toArray, List.getElem_cons_succ, List.getElem_cons_zero, List.setIfInBounds_toArray, List.set_cons_zero, List.set_cons_succ]
            refine AnyG.done (by kernel_rfl) ?_ _
            go_simp
            go_wp2_with fail
            go_meet
            exact ⟨b9, rfl, hb9, k9n, hS⟩
        case rest =>
          obtain ⟨b9, rfl, hb9, k9, hS9⟩ := hcut
          obtain ⟨w4, rfl⟩ : ∃ x, x = wc := ⟨_, rfl⟩
          go_wp2_with fail
          go_loopw [10] (fun v10 wi => ∃ (j : Nat) (lo hi : Int), j ≤ n1 ∧ v10 = .int .i64 j ∧ Ends (zvF Lx i) n1 j lo hi ∧ Bx wi b9 23 #[.int .i64 lo, .int .i64 hi] ∧ Below w3.heap.size w3 wi) (fun v10 _ => n1 - (intOf v10).toNat)
          case atStart => exact ⟨0, a, a, by omega, rfl, by rw [← HA.out]; exact Ends.start hn1, k9, hS9⟩
          case round =>
            clear k9 hS9
            obtain ⟨w5, rfl⟩ : ∃ x, x = wr := ⟨_, rfl⟩
            obtain ⟨j, lo, hi, hj, rfl, hEn, k9, hS9⟩ := hrel
            have hB5 := hB.trans (hS9.mono hB.size)
            have hF5 := hF2.bel hB5
            by_cases hjn : j < n1
            · obtain ⟨q2, zb, zc2, e, hq2, hzb, d0, d1⟩ := fact_zero hF5 HPL.out hjn hik
              simp only [Option.some.injEq, Addr.mk.injEq, and_true, true_and] at e
              subst e
              have hEs := hEn.step hjn
              obtain ⟨y, hy⟩ : ∃ y, zvF Lx i j = y := ⟨_, rfl⟩
              rw [hy] at hEs d1
              have hmin : min lo y = if y < lo then y else lo := by split <;> omega
              have hmax : max hi y = if hi < y then y else hi := by split <;> omega
              rw [hmin, hmax] at hEs
              clear hmin hmax
              have HD := Lib.hid (And.intro d0 d1)
              clear hy d0 d1 hEn
              go_upto_region 16 with fail
              refine AnyG.startC (by kernel_rfl) ?_
              refine AnyG.takeP (i := 0) (v := ?_) rfl (by kernel_rfl) (fun _ _ _ h => h) rfl ?_ ?_
              rotate_left
              · (intro w'; go_simp; try with_reducible rfl)
              try simp only [Act.put, List.getElem_toArray, List.getElem_cons_succ, List.getElem_cons_zero, List.setIfInBounds_toArray, List.set_cons_zero, List.set_cons_succ]
              refine AnyG.takeP (i := 2) (v := ?_) rfl (by kernel_rfl) (fun _ _ _ h => h) rfl ?_ ?_
              rotate_left
              · (intro w'; go_simp; try with_reducible rfl)
              try simp only [Act.put, List.getElem_toArray, List.getElem_cons_succ, List.getElem_cons_zero, List.setIfInBounds_toArray, List.set_cons_zero, List.set_cons_succ]
              refine AnyG.takeP (i := 3) (v := ?_) rfl (by kernel_rfl) (fun _ _ _ h => h) rfl ?_ ?_
              rotate_left
              · (intro w'; go_simp; try with_reducible rfl)
              try simp only [Act.put, List.getElem_toArray, List.getElem_cons_succ, List.getElem_cons_zero, List.setIfInBounds_toArray, List.set_cons_zero, List.set_cons_succ]
              refine AnyG.takeP (i := 4) (v := ?_) rfl (by kernel_rfl) (fun _ _ _ h => h) rfl ?_ ?_
              rotate_left
              · (intro w'; go_simp; try with_reducible rfl)
              try simp only [Act.put, List.getElem_toArray, List.getElem_cons_succ, List.getElem_cons_zero, List.setIfInBounds_toArray, List.set_cons_zero, List.set_cons_succ]
              refine AnyG.takeP (i := 5) (v := ?_) rfl (by kernel_rfl) (fun _ _ _ h => h) rfl ?_ ?_
              rotate_left
              · (intro w'; go_simp; try with_reducible rfl)
              try simp only [Act.put, List.getElem_toArray, List.getElem_cons_succ, List.getElem_cons_zero, List.setIfInBounds_toArray, List.set_cons_zero, List.set_cons_succ]
              refine AnyG.takeP (i := 7) (v := ?_) rfl (by kernel_rfl) (fun _ _ _ h => h) rfl ?_ ?_
              rotate_left
              · (intro w'; go_simp; try with_reducible rfl)
              try simp only [Act.put, List.getElem_toArray, List.getElem_cons_succ, List.getElem_cons_zero, List.setIfInBounds_toArray, List.set_cons_zero, List.set_cons_succ]
              refine AnyG.takeP (i := 11) (v := ?_) rfl (by kernel_rfl) (fun _ _ _ h => h) rfl ?_ ?_
              rotate_left
              · (intro w'; go_simp; try with_reducible rfl)
              try simp only [Act.put, List.getElem_toArray, List.getElem_cons_succ, List.getElem_cons_zero, List.setIfInBounds_toArray, List.set_cons_zero, List.set_cons_succ]
              refine AnyG.takeP (i := 13) (v := ?_) rfl (by kernel_rfl) (fun _ _ _ h => h) rfl ?_ ?_
              rotate_left
              · (intro w'; go_simp; try with_reducible rfl)
              try simp only [Act.put, List.getElem_toArray, List.getElem_cons_succ, List.getElem_cons_zero, List.setIfInBounds_toArray, List.set_cons_zero, List.set_cons_succ]
              refine AnyG.takeP (i := 14) (v := ?_) rfl (by kernel_rfl) (fun _ _ _ h => h) rfl ?_ ?_
              rotate_left
              · (intro w'; go_simp; try with_reducible rfl)
              try simp only [Act.put, List.getElem_toArray, List.getElem_cons_succ, List.getElem_cons_zero, List.setIfInBounds_toArray, List.set_cons_zero, List.set_cons_succ]
              refine AnyG.takeP (i := 15) (v := ?_) rfl (by kernel_rfl) (fun _ _ _ h => h) rfl ?_ ?_
              rotate_left
              · (intro w'; go_simp; try with_reducible rfl)
              try simp only [Act.put, List.getElem_toArray, List.getElem_cons_succ, List.getElem_cons_zero, List.setIfInBounds_toArray, List.set_cons_zero, List.set_cons_succ]
              refine AnyG.takeP (i := 16) (v := ?_) rfl (by kernel_rfl) (fun _ _ _ h => h) rfl ?_ ?_
              rotate_left
              · (intro w'; go_simp; try with_reducible rfl)
              try simp only [Act.put, List.getElem_toArray, List.getElem_cons_succ, List.getElem_cons_zero, List.setIfInBounds_toArray, List.set_cons_zero, List.set_cons_succ]
              refine AnyG.takeP (i := 18) (v := ?_) rfl (by kernel_rfl) (fun _ _ _ h => h) rfl ?_ ?_
              rotate_left
              · (intro w'; go_simp; try with_reducible rfl)
              try simp only [Act.put, List.getElem_toArray, List.getElem_cons_succ, List.getElem_cons_zero, List.setIfInBounds_toArray, List.set_cons_zero, List.set_cons_succ]
              refine AnyG.enter (fun w' : World => Below w5.heap.size w5 w') (fun i => i != 23 && i != 22) ?_
              have hS : (fun w' : World => Below w5.heap.size w5 w') (World.drew _) := (Below.refl _ _).drew
              refine AnyG.takeC (i := 1) (v := ?_) rfl (by kernel_rfl) (fun _ _ _ h => h) rfl ?_ hS ?_
              rotate_left
              · (intro w' hSw; (try dsimp only at hSw); obtain ⟨g0, g1, gf, gz⟩ := (k9.call hSw).two; go_simp; try with_reducible rfl)
              try simp only [Act.put, List.getElem_toArray, List.getElem_cons_succ, List.getElem_cons_zero, List.setIfInBounds_toArray, List.set_cons_zero, List.set_cons_succ]
              refine AnyG.takeC (i := 6) (v := ?_) rfl (by kernel_rfl) (fun _ _ _ h => h) rfl ?_ hS ?_
              rotate_left
              · (intro w' hSw; (try dsimp only at hSw); have d0 := (hSw.cell (p := ⟨q, j * 2, none⟩) hq2).trans HD.out.1; go_simp; try with_reducible rfl)
              try simp only [Act.put, List.getElem_toArray, List.getElem_cons_succ, List.getElem_cons_zero, List.setIfInBounds_toArray, List.set_cons_zero, List.set_cons_succ]
              refine AnyG.takeC (i := 8) (v := ?_) rfl (by kernel_rfl) (fun _ _ _ h => h) rfl ?_ hS ?_
              rotate_left
              · (intro w' hSw; (try dsimp only at hSw); go_simp; try with_reducible rfl)
              try simp only [Act.put, List.getElem_toArray, List.getElem_cons_succ, List.getElem_cons_zero, List.setIfInBounds_toArray, List.set_cons_zero, List.set_cons_succ]
              refine AnyG.takeC (i := 9) (v := ?_) rfl (by kernel_rfl) (fun _ _ _ h => h) rfl ?_ hS ?_
              rotate_left
              · (intro w' hSw; (try dsimp only at hSw); have d1 := (hSw.cell (p := zb.add i) (by rw [add_block]; exact hzb)).trans HD.out.2; go_simp; try with_reducible rfl)
              try simp only [Act.put, List.getElem_toArray, List.getElem_cons_succ, List.getElem_cons_zero, List.setIfInBounds_toArray, List.set_cons_zero, List.set_cons_succ]
              refine AnyG.takeC (i := 10) (v := ?_) rfl (by kernel_rfl) (fun _ _ _ h => h) rfl ?_ hS ?_
              rotate_left
              · (intro w' hSw; (try dsimp only at hSw); go_simp; try with_reducible rfl)
              try simp only [Act.put, List.getElem_toArray, List.getElem_cons_succ, List.getElem_cons_zero, List.setIfInBounds_toArray, List.set_cons_zero, List.set_cons_succ]
              refine AnyG.takeC (i := 12) (v := ?_) rfl (by kernel_rfl) (fun _ _ _ h => h) rfl ?_ hS ?_
              rotate_left
              · (intro w' hSw; (try dsimp only at hSw); obtain ⟨g0, g1, gf, gz⟩ := (k9.call hSw).two; go_simp; try with_reducible rfl)
              try simp only [Act.put, List.getElem_toArray, List.getElem_cons_succ, List.getElem_cons_zero, List.setIfInBounds_toArray, List.set_cons_zero, List.set_cons_succ]
              refine AnyG.takeC (i := 17) (v := ?_) rfl (by kernel_rfl) (fun _ _ _ h => h) rfl ?_ hS ?_
              rotate_left
              · (intro w' hSw; (try dsimp only at hSw); have d0 := (hSw.cell (p := ⟨q, j * 2, none⟩) hq2).trans HD.out.1; go_simp; try with_reducible rfl)
              try simp only [Act.put, List.getElem_toArray, List.getElem_cons_succ, List.getElem_cons_zero, List.setIfInBounds_toArray, List.set_cons_zero, List.set_cons_succ]
              refine AnyG.takeC (i := 19) (v := ?_) rfl (by kernel_rfl) (fun _ _ _ h => h) rfl ?_ hS ?_
              rotate_left
              · (intro w' hSw; (try dsimp only at hSw); go_simp; try with_reducible rfl)
              try simp only [Act.put, List.getElem_toArray, List.getElem_cons_succ, List.getElem_cons_zero, List.setIfInBounds_toArray, List.set_cons_zero, List.set_cons_succ]
              refine AnyG.takeC (i := 20) (v := ?_) rfl (by kernel_rfl) (fun _ _ _ h => h) rfl ?_ hS ?_
              rotate_left
              · (intro w' hSw; (try dsimp only at hSw); have d1 := (hSw.cell (p := zb.add i) (by rw [add_block]; exact hzb)).trans HD.out.2; go_simp; try with_reducible rfl)
              try simp only [Act.put, List.getElem_toArray, List.getElem_cons_succ, List.getElem_cons_zero, List.setIfInBounds_toArray, List.set_cons_zero, List.set_cons_succ]
              refine AnyG.takeC (i := 21) (v := ?_) rfl (by kernel_rfl) (fun _ _ _ h => h) rfl ?_ hS ?_
              rotate_left
              · (intro w' hSw; (try dsimp only at hSw); go_simp; try with_reducible rfl)
              try simp only [Act.put, List.getElem_toArray, List.getElem_cons_succ, List.getElem_cons_zero, List.setIfInBounds_toArray, List.set_cons_zero, List.set_cons_succ]
              refine AnyG.one (i := 22) (by kernel_rfl) rfl rfl ?_
              go_simp
              refine (rng_any _ _ _).mono ?_
              rintro er y22 ⟨rfl, hq22⟩
              refine Onward.last rfl ?_
              try simp only [Act.put, List.getElem_toArray, List.getElem_cons_succ, List.getElem_cons_zero, List.setIfInBounds_toArray, List.set_cons_zero, List.set_cons_succ]
              refine AnyG.one (i := 23) (by kernel_rfl) rfl rfl ?_
              have hS23 := hS.trans (hq22.mono hS.size)
              have k9n := k9.call hS23
              obtain ⟨m0, m1, mf, mz⟩ := k9n.two
              go_simp
              refine Onward.last rfl ?_
              try simp only [Act.put, List.getElem_toArray, List.getElem_cons_succ, List.getElem_cons_zero, List.setIfInBounds_toArray, List.set_cons_zero, List.set_cons_succ]
              refine AnyG.done (by kernel_rfl) ?_ _
              go_simp
              clear m0 m1 mf mz
              go_wp2_with fail
              go_roundw
              case rel => exact ⟨j + 1, (if y < lo then y else lo), (if hi < y then y else hi), by omega, by go_num, hEs, by have := (k9n.set_ 0 (.int .i64 (if y < lo then y else lo))).set_ 1 (.int .i64 (if hi < y then y else hi)); simpa using this, ((hS9.trans (hS23.mono hS9.size)).setCell hb9 _).setCell hb9 _⟩
              case measure => simp [intOf]; omega
            · obtain rfl : j = n1 := by omega
              have he := ends_zero HOK.out.log HOK.out.md HOK.out.most (by rw [HEL.out]; exact HFIT.out) HLX.out (by rw [HEL.out]; exact hik) (by rw [HLN.out]; exact hEn)
              obtain ⟨qa, rfl, hqa, q0, q1⟩ := zrows_at (hQ.below hB5) hik
              rw [← he.1] at q0
              rw [← he.2] at q1
              have HQ := Lib.hid (And.intro q0 q1)
              clear he q0 q1 hEn
              go_upto_region 17 with fail
              refine AnyG.startC (by kernel_rfl) ?_
              refine AnyG.takeP (i := 0) (v := ?_) rfl (by kernel_rfl) (fun _ _ _ h => h) rfl ?_ ?_
              rotate_left
              · (intro w'; go_simp; try with_reducible rfl)
              try simp only [Act.put, List.getElem_toArray, List.getElem_cons_succ, List.getElem_cons_zero, List.setIfInBounds_toArray, List.set_cons_zero, List.set_cons_succ]
              refine AnyG.takeP (i := 1) (v := ?_) rfl (by kernel_rfl) (fun _ _ _ h => h) rfl ?_ ?_
              rotate_left
              · (intro w'; go_simp; try with_reducible rfl)
              try simp only [Act.put, List.getElem_toArray, List.getElem_cons_succ, List.getElem_cons_zero, List.setIfInBounds_toArray, List.set_cons_zero, List.set_cons_succ]
              refine AnyG.takeP (i := 2) (v := ?_) rfl (by kernel_rfl) (fun _ _ _ h => h) rfl ?_ ?_
              rotate_left
              · (intro w'; go_simp; try with_reducible rfl)
              try simp only [Act.put, List.getElem_toArray, List.getElem_cons_succ, List.getElem_cons_zero, List.setIfInBounds_toArray, List.set_cons_zero, List.set_cons_succ]
              refine AnyG.enter (fun w' : World => Below w5.heap.size w5 w') (fun i => true) ?_
              have hS : (fun w' : World => Below w5.heap.size w5 w') (World.drew _) := (Below.refl _ _).drew
              refine AnyG.takeC (i := 3) (v := ?_) rfl (by kernel_rfl) (fun _ _ _ h => h) rfl ?_ hS ?_
              rotate_left
              · (intro w' hSw; (try dsimp only at hSw); have q0 := (hSw.cell (p := qa.add (i * 2)) (by rw [add_block]; exact Nat.lt_of_lt_of_le hqa hB5.size)).trans HQ.out.1; have q1 := (hSw.cell (p := ⟨(qa.add (i * 2)).block, (qa.add (i * 2)).off + 1, none⟩) (by show (qa.add (i * 2)).block < _; rw [add_block]; exact Nat.lt_of_lt_of_le hqa hB5.size)).trans HQ.out.2; go_simp; try with_reducible rfl)
              try simp only [Act.put, List.getElem_toArray, List.getElem_cons_succ, List.getElem_cons_zero, List.setIfInBounds_toArray, List.set_cons_zero, List.set_cons_succ]
              refine AnyG.takeC (i := 4) (v := ?_) rfl (by kernel_rfl) (fun _ _ _ h => h) rfl ?_ hS ?_
              rotate_left
              · (intro w' hSw; (try dsimp only at hSw); obtain ⟨g0, g1, gf, gz⟩ := (k9.call hSw).two; go_simp; try with_reducible rfl)
              try simp only [Act.put, List.getElem_toArray, List.getElem_cons_succ, List.getElem_cons_zero, List.setIfInBounds_toArray, List.set_cons_zero, List.set_cons_succ]
              refine AnyG.takeC (i := 5) (v := ?_) rfl (by kernel_rfl) (fun _ _ _ h => h) rfl ?_ hS ?_
              rotate_left
              · (intro w' hSw; (try dsimp only at hSw); go_simp; try with_reducible rfl)
              try simp only [Act.put, List.getElem_toArray, List.getElem_cons_succ, List.getElem_cons_zero, List.setIfInBounds_toArray, List.set_cons_zero, List.set_cons_succ]
              refine AnyG.done (by kernel_rfl) ?_ _
              go_simp
              go_wp2_with fail
              go_roundw
              case rel => exact ⟨i + 1, by omega, by go_num, hB5.drew⟩
              case measure => simp [intOf]; omega
      · have hik2 : k = i := by omega
        subst hik2
        obtain ⟨w6, rfl⟩ : ∃ x, x = wr := ⟨_, rfl⟩
        have kL := kL2.call hB
        have hE3 := (Sl.below hE2 hB).more hB.size
        have hf3 : Fd g w6 := by obtain ⟨y, h1, h2, h3⟩ := hf2; exact ⟨y, h1, h2, h3.call hB⟩
        have hB3 := hB2.trans (hB.mono hB2.size)
        have hF3 := hF2.bel hB
        clear hB kL2 hE2 hf2 hB2 hF2 hQ
        obtain ⟨l0, l1, l2, l3, lf, lz⟩ := kL.four
        go_upto_region 20 with (first | (go_at_call 26; refine (slipOf_any g st z0 z1 EA k EC es 2 _ hf3 HEL.out (by omega) hE3 (by omega) (by omega)).mono ?_; rintro e V ⟨FA, fn, fc, BA, bn, bc, fs, bs, d0, d1, F, B, l, jj, rfl, hFn, hBn, hF, hBs, ⟨hfc, hbc⟩, hat, hsp, hfs, hbs, dr1, dr2, dr3, hfd, hgr⟩) | fail)
        have hEV : EvsAt V V.heap.size EA es := (Sl.ft hE3 hf3 hgr (evs_no _)).more hgr.size
        have kLV := kL.grown hgr (by simpa using Ne.symm hgL)
        have hFV := hF3.fd hf3 hgr
        have hBV : Below w.heap.size w V := hB3.grown hgr hB3.size (fun k e => by cases e; exact hg0)
        have HFN := Lib.hid hFn
        have HBN := Lib.hid hBn
        obtain ⟨ok, hok⟩ : ∃ b, (decide (0 < fn) && decide (0 < bn)) = b := ⟨_, rfl⟩
        rw [hok]
        have HOKK := Lib.hid hok
        clear hok hE3 hf3 hB3 kL hgr hFn hBn l0 l1 l2 l3 lf lz hfd hF3
        cases ok
        · go_wp2_with (first | (go_at_call 14; refine (awake_any _).mono ?_; rintro e x7 ⟨rfl, hq7⟩) | fail)
          go_ret
          exact ⟨rfl, (hBV.alloc hBV.size _).trans (hq7.mono (by have := hBV.size; simp; omega))⟩
        · have hok2 : 0 < fn ∧ 0 < bn := by simpa using HOKK.out
          have hfn3 : fn ≤ 2 := by have := hsp.fl; rw [HFN.out] at this; omega
          have hbn3 : bn ≤ 2 := by have := hsp.bl; rw [HBN.out] at this; omega
          have hlF : ∀ x ∈ F, ldAt es x := fun x hx => (hat.mem _ (List.mem_of_mem_take (hsp.fm x hx))).1
          have hlB : ∀ x ∈ B, ldAt es x := fun x hx => (hat.mem _ (List.mem_of_mem_take (hsp.bm x hx))).1
          have hFm : ∀ x ∈ F, 0 ≤ x ∧ x < (k : Int) := fun x hx => by have h := hlF x hx; have h1 := h.1; have h2 := h.2.1; rw [HEL.out] at h2; exact ⟨h1, h2⟩
          have hBm : ∀ x ∈ B, 0 ≤ x ∧ x < (k : Int) := fun x hx => by have h := hlB x hx; have h1 := h.1; have h2 := h.2.1; rw [HEL.out] at h2; exact ⟨h1, h2⟩
          have hk1 : 1 ≤ k := by have h := hFm (F[0]'(by rw [HFN.out]; exact hok2.1)) (List.getElem_mem _); omega
          have hs0 : ckS st z0 z1 es F B 0 0 d0 d1 = 0 := ckS_made HOK.out.ck hat hsp (by omega) (by rw [HFN.out]; omega) (by rw [HBN.out]; omega) (by omega) (by omega) (by omega) (by omega) (by omega) dr2 (by omega)
          have HS0 := Lib.hid hs0
          have HFM := Lib.hid hFm
          have HBM := Lib.hid hBm
          have HAP := Lib.hid (And.intro hsp.fa (And.intro hsp.ba hsp.ap))
          clear hs0 hFm hBm hlF hlB hat hsp
          have kSU := Bx.new V 50 #[.slice FA fn fc, .slice BA bn bc, .int .i64 fs, .int .i64 bs, .int .i64 d0, .int .i64 d1]
          have hBu := (Below.refl V.heap.size V).alloc (Nat.le_refl _) (.cells #[.slice FA fn fc, .slice BA bn bc, .int .i64 fs, .int .i64 bs, .int .i64 d0, .int .i64 d1] 50)
          obtain ⟨U, hU⟩ : ∃ U, V.alloc (.cells #[.slice FA fn fc, .slice BA bn bc, .int .i64 fs, .int .i64 bs, .int .i64 d0, .int .i64 d1] 50) = U := ⟨_, rfl⟩
          rw [hU] at kSU hBu ⊢
          obtain ⟨sb, hsb⟩ : ∃ b, V.heap.size = b := ⟨_, rfl⟩
          have hsb1 : V.heap.size ≤ sb ∧ sb ≤ V.heap.size := by omega
          rw [hsb] at kSU ⊢
          clear hU hsb
          obtain ⟨s0, s1, s2, s3, s4, s5, sf, sz⟩ := kSU.six
          go_upto_region 23 with fail
          clear s0 s1 s2 s3 s4 s5 sf sz
          have kS2 : Bx (World.setCell (World.setCell U ⟨sb, 2, none⟩ (.int .i64 0)) ⟨sb, 3, none⟩ (.int .i64 0)) sb 50 #[.slice FA fn fc, .slice BA bn bc, .int .i64 0, .int .i64 0, .int .i64 d0, .int .i64 d1] := by have := (kSU.set_ 2 (.int .i64 0)).set_ 3 (.int .i64 0); simpa using this
          have hBu2 := (hBu.setCell (p := ⟨sb, 2, none⟩) hsb1.1 (.int .i64 0)).setCell (p := ⟨sb, 3, none⟩) hsb1.1 (.int .i64 0)
          obtain ⟨U2, hU2⟩ : ∃ x, World.setCell (World.setCell U ⟨sb, 2, none⟩ (.int .i64 0)) ⟨sb, 3, none⟩ (.int .i64 0) = x := ⟨_, rfl⟩
          rw [hU2] at kS2 hBu2 ⊢
          clear hU2 kSU hBu
          have kS3 := kS2.alloc (.cells #[.int .i64 0, .int .i64 0] 23)
          have k13 := Bx.new U2 23 #[.int .i64 0, .int .i64 0]
          have hBu3 := hBu2.alloc hBu2.size (.cells #[.int .i64 0, .int .i64 0] 23)
          have hsz13 := kS2.lt
          have hb13 := hBu2.size
          go_upto_region 24 with fail
          obtain ⟨U3, hU3⟩ : ∃ x, U2.alloc (.cells #[.int .i64 0, .int .i64 0] 23) = x := ⟨_, rfl⟩
          rw [hU3] at kS3 k13 hBu3 ⊢
          obtain ⟨b13, hb⟩ : ∃ b, U2.heap.size = b := ⟨_, rfl⟩
          rw [hb] at k13 hsz13 hb13 ⊢
          clear hU3 hb kS2 hBu2
          go_wp2_with fail
          go_loopw [14] (fun v14 wr => ∃ (j : Nat) (lo hi : Int), j ≤ n1 ∧ v14 = .int .i64 j ∧ (0 < j → Ends (nvF Lx F B) n1 j lo hi) ∧ Bx wr b13 23 #[.int .i64 lo, .int .i64 hi] ∧ Bx wr sb 50 #[.slice FA fn fc, .slice BA bn bc, .int .i64 0, .int .i64 0, .int .i64 d0, .int .i64 d1] ∧ Below V.heap.size V wr) (fun v14 _ => n1 - (intOf v14).toNat)
          case atStart => exact ⟨0, 0, 0, by omega, rfl, fun h => absurd h (by omega), k13, kS3, hBu3⟩
          case round =>
            clear k13 kS3 hBu3
            obtain ⟨w7, rfl⟩ : ∃ x, x = wr := ⟨_, rfl⟩
            obtain ⟨j, lo, hi, hj, rfl, hEn, k13, kS, hB7⟩ := hrel
            by_cases hjn : j < n1
            · have hF7 := hFV.bel hB7
              obtain ⟨q, NA, NC, p, rfl, hq, hpm, hpj, hpl, c1, hNr⟩ := fact_loads hF7 HPL.out hjn
              have hFr := (hF.below hB7).more hB7.size
              have hBr := (hBs.below hB7).more hB7.size
              have hnb : ∀ y ∈ p.2, 0 ≤ y ∧ y ≤ 50000 := fun y hy => by have := HPN.out p hpm y hy; omega
              obtain ⟨SF, hSF⟩ : ∃ s, (F.map (atD p.2)).sum = s := ⟨_, rfl⟩
              obtain ⟨SB, hSB⟩ : ∃ s, (B.map (atD p.2)).sum = s := ⟨_, rfl⟩
              have t1 := sumD_bd (l := F) hnb
              have t2 := sumD_bd (l := B) hnb
              rw [hSF, HFN.out] at t1
              rw [hSB, HBN.out] at t2
              obtain ⟨y, hy⟩ : ∃ y, SF - SB = y := ⟨_, rfl⟩
              have hnv : nvF Lx F B j = y := by unfold nvF; rw [hpj]; dsimp only; rw [← hy, ← hSF, ← hSB]; rfl
              have hyb : -1000000 ≤ y ∧ y ≤ 1000000 := by omega
              have hwy : IntKind.i64.wrap (SF - SB) = y := by rw [hy]; exact IntWalk.i64_in _ (by omega)
              have HSF := Lib.hid hSF
              have HSB := Lib.hid hSB
              have HNV := Lib.hid hnv
              have HNB := Lib.hid hnb
              have HPL2 := Lib.hid hpl
              have HC := Lib.hid c1
              clear hSF hSB hnv hnb hpl c1 hpj hpm hy t1 t2
              go_upto_region 27 with fail
              refine AnyG.startC (by kernel_rfl) ?_
              refine AnyG.takeP (i := 0) (v := ?_) rfl (by kernel_rfl) (fun _ _ _ h => h) rfl ?_ ?_
              rotate_left
              · (intro w'; go_simp; try with_reducible rfl)
              try simp only [Act.put, List.getElem_toArray, List.getElem_cons_succ, List.getElem_cons_zero, List.setIfInBounds_toArray, List.set_cons_zero, List.set_cons_succ]
              refine AnyG.takeP (i := 2) (v := ?_) rfl (by kernel_rfl) (fun _ _ _ h => h) rfl ?_ ?_
              rotate_left
              · (intro w'; go_simp; try with_reducible rfl)
              try simp only [Act.put, List.getElem_toArray, List.getElem_cons_succ, List.getElem_cons_zero, List.setIfInBounds_toArray, List.set_cons_zero, List.set_cons_succ]
              refine AnyG.takeP (i := 3) (v := ?_) rfl (by kernel_rfl) (fun _ _ _ h => h) rfl ?_ ?_
              rotate_left
              · (intro w'; go_simp; try with_reducible rfl)
              try simp only [Act.put, List.getElem_toArray, List.getElem_cons_succ, List.getElem_cons_zero, List.setIfInBounds_toArray, List.set_cons_zero, List.set_cons_succ]
              refine AnyG.takeP (i := 4) (v := ?_) rfl (by kernel_rfl) (fun _ _ _ h => h) rfl ?_ ?_
              rotate_left
              · (intro w'; go_simp; try with_reducible rfl)
              try simp only [Act.put, List.getElem_toArray, List.getElem_cons_succ, List.getElem_cons_zero, List.setIfInBounds_toArray, List.set_cons_zero, List.set_cons_succ]
              refine AnyG.takeP (i := 5) (v := ?_) rfl (by kernel_rfl) (fun _ _ _ h => h) rfl ?_ ?_
              rotate_left
              · (intro w'; go_simp; try with_reducible rfl)
              try simp only [Act.put, List.getElem_toArray, List.getElem_cons_succ, List.getElem_cons_zero, List.setIfInBounds_toArray, List.set_cons_zero, List.set_cons_succ]
              refine AnyG.takeP (i := 8) (v := ?_) rfl (by kernel_rfl) (fun _ _ _ h => h) rfl ?_ ?_
              rotate_left
              · (intro w'; go_simp; try with_reducible rfl)
              try simp only [Act.put, List.getElem_toArray, List.getElem_cons_succ, List.getElem_cons_zero, List.setIfInBounds_toArray, List.set_cons_zero, List.set_cons_succ]
              refine AnyG.takeP (i := 10) (v := ?_) rfl (by kernel_rfl) (fun _ _ _ h => h) rfl ?_ ?_
              rotate_left
              · (intro w'; go_simp; try with_reducible rfl)
              try simp only [Act.put, List.getElem_toArray, List.getElem_cons_succ, List.getElem_cons_zero, List.setIfInBounds_toArray, List.set_cons_zero, List.set_cons_succ]
              refine AnyG.takeP (i := 11) (v := ?_) rfl (by kernel_rfl) (fun _ _ _ h => h) rfl ?_ ?_
              rotate_left
              · (intro w'; go_simp; try with_reducible rfl)
              try simp only [Act.put, List.getElem_toArray, List.getElem_cons_succ, List.getElem_cons_zero, List.setIfInBounds_toArray, List.set_cons_zero, List.set_cons_succ]
              refine AnyG.takeP (i := 12) (v := ?_) rfl (by kernel_rfl) (fun _ _ _ h => h) rfl ?_ ?_
              rotate_left
              · (intro w'; go_simp; try with_reducible rfl)
              try simp only [Act.put, List.getElem_toArray, List.getElem_cons_succ, List.getElem_cons_zero, List.setIfInBounds_toArray, List.set_cons_zero, List.set_cons_succ]
              refine AnyG.takeP (i := 13) (v := ?_) rfl (by kernel_rfl) (fun _ _ _ h => h) rfl ?_ ?_
              rotate_left
              · (intro w'; go_simp; try with_reducible rfl)
              try simp only [Act.put, List.getElem_toArray, List.getElem_cons_succ, List.getElem_cons_zero, List.setIfInBounds_toArray, List.set_cons_zero, List.set_cons_succ]
              refine AnyG.enter (fun w' : World => Below w7.heap.size w7 w') (fun i => true) ?_
              have hS : (fun w' : World => Below w7.heap.size w7 w') (World.drew _) := (Below.refl _ _).drew
              refine AnyG.takeC (i := 1) (v := ?_) rfl (by kernel_rfl) (fun _ _ _ h => h) rfl ?_ hS ?_
              rotate_left
              · (intro w' hSw; (try dsimp only at hSw); obtain ⟨s0, s1, s2, s3, s4, s5, sf, sz⟩ := (kS.call hSw).six; go_simp; try with_reducible rfl)
              try simp only [Act.put, List.getElem_toArray, List.getElem_cons_succ, List.getElem_cons_zero, List.setIfInBounds_toArray, List.set_cons_zero, List.set_cons_succ]
              refine AnyG.takeC (i := 6) (v := ?_) rfl (by kernel_rfl) (fun _ _ _ h => h) rfl ?_ hS ?_
              rotate_left
              · (intro w' hSw; (try dsimp only at hSw); have c1 := (hSw.cell (p := ⟨q, j * 2 + 1, none⟩) hq).trans HC.out; go_simp; try with_reducible rfl)
              try simp only [Act.put, List.getElem_toArray, List.getElem_cons_succ, List.getElem_cons_zero, List.setIfInBounds_toArray, List.set_cons_zero, List.set_cons_succ]
              refine AnyG.takeC (i := 9) (v := ?_) rfl (by kernel_rfl) (fun _ _ _ h => h) rfl ?_ hS ?_
              rotate_left
              · (intro w' hSw; (try dsimp only at hSw); obtain ⟨s0, s1, s2, s3, s4, s5, sf, sz⟩ := (kS.call hSw).six; go_simp; try with_reducible rfl)
              try simp only [Act.put, List.getElem_toArray, List.getElem_cons_succ, List.getElem_cons_zero, List.setIfInBounds_toArray, List.set_cons_zero, List.set_cons_succ]
              refine AnyG.takeC (i := 14) (v := ?_) rfl (by kernel_rfl) (fun _ _ _ h => h) rfl ?_ hS ?_
              rotate_left
              · (intro w' hSw; (try dsimp only at hSw); have c1 := (hSw.cell (p := ⟨q, j * 2 + 1, none⟩) hq).trans HC.out; go_simp; try with_reducible rfl)
              try simp only [Act.put, List.getElem_toArray, List.getElem_cons_succ, List.getElem_cons_zero, List.setIfInBounds_toArray, List.set_cons_zero, List.set_cons_succ]
              refine AnyG.one (i := 7) (by kernel_rfl) rfl rfl ?_
              go_simp
              refine (sumOf_any FA fn fc F NA k NC p.2 _ (by omega) (by omega) HFN.out HPL2.out ((hFr.below hS).more hS.size) ((hNr.below hS).more hS.size) HFM.out HNB.out).mono ?_
              rintro e yy ⟨he, rfl⟩
              rw [HSF.out] at he
              subst he
              refine Onward.on hS (fun hS2 => ?_)
              clear hS
              have hS := hS2
              clear hS2
              try simp only [Act.put, List.getElem_toArray, List.getElem_cons_succ, List.getElem_cons_zero, List.setIfInBounds_toArray, List.set_cons_zero, List.set_cons_succ]
              refine AnyG.one (i := 15) (by kernel_rfl) rfl rfl ?_
              go_simp
              refine (sumOf_any BA bn bc B NA k NC p.2 _ (by omega) (by omega) HBN.out HPL2.out ((hBr.below hS).more hS.size) ((hNr.below hS).more hS.size) HBM.out HNB.out).mono ?_
              rintro e yy ⟨he, rfl⟩
              rw [HSB.out] at he
              subst he
              refine Onward.on hS (fun hS2 => ?_)
              clear hS
              have hS := hS2
              clear hS2
              try simp only [Act.put, List.getElem_toArray, List.getElem_cons_succ, List.getElem_cons_zero, List.setIfInBounds_toArray, List.set_cons_zero, List.set_cons_succ]
              refine AnyG.takeC (i := 16) (v := ?_) rfl (by kernel_rfl) (fun _ _ _ h => h) rfl ?_ hS ?_
              rotate_left
              · (intro w' hSw; (try dsimp only at hSw); go_simp; try with_reducible rfl)
              try simp only [Act.put, List.getElem_toArray, List.getElem_cons_succ, List.getElem_cons_zero, List.setIfInBounds_toArray, List.set_cons_zero, List.set_cons_succ]
              refine AnyG.takeC (i := 17) (v := ?_) rfl (by kernel_rfl) (fun _ _ _ h => h) rfl ?_ hS ?_
              rotate_left
              · (intro w' hSw; (try dsimp only at hSw); go_simp; try with_reducible rfl)
              try simp only [Act.put, List.getElem_toArray, List.getElem_cons_succ, List.getElem_cons_zero, List.setIfInBounds_toArray, List.set_cons_zero, List.set_cons_succ]
              refine AnyG.done (by kernel_rfl) ?_ _
              go_simp
              try clear hwy
              have k13d := k13.drew
              have kSd := kS.drew
              have hB7d := hB7.drew
              obtain ⟨w8, hw8⟩ : ∃ x, w7.drew = x := ⟨_, rfl⟩
              rw [hw8] at k13d kSd hB7d ⊢
              clear hw8 k13 kS hB7 hS
              by_cases hj0 : j = 0
              · have hj0b : ((j : Int) == 0) = true := by subst hj0; rfl
                obtain ⟨m0, m1, mf, mz⟩ := k13d.two
                go_upto_region 30 with (first | (go_at_call 46; refine (rng_any _ _ _).mono ?_; rintro er yA ⟨rfl, hqA⟩; clear m0 m1 mf mz; have k13A := k13d.call hqA; obtain ⟨m0, m1, mf, mz⟩ := k13A.two) | fail)
                clear m0 m1 mf mz
                have k13S : Bx (World.setCell (World.setCell yA ⟨b13, 0, none⟩ (.int .i64 y)) ⟨b13, 1, none⟩ (.int .i64 y)) b13 23 #[.int .i64 y, .int .i64 y] := by have := (k13A.set_ 0 (.int .i64 y)).set_ 1 (.int .i64 y); simpa using this
                have kSS : Bx (World.setCell (World.setCell yA ⟨b13, 0, none⟩ (.int .i64 y)) ⟨b13, 1, none⟩ (.int .i64 y)) sb 50 #[.slice FA fn fc, .slice BA bn bc, .int .i64 0, .int .i64 0, .int .i64 d0, .int .i64 d1] := ((kSd.call hqA).far (p := ⟨b13, 0, none⟩) (by simp; omega) _).far (p := ⟨b13, 1, none⟩) (by simp; omega) _
                have hBS : Below V.heap.size V (World.setCell (World.setCell yA ⟨b13, 0, none⟩ (.int .i64 y)) ⟨b13, 1, none⟩ (.int .i64 y)) := ((hB7d.trans (hqA.mono hB7d.size)).setCell (p := ⟨b13, 0, none⟩) hb13 _).setCell (p := ⟨b13, 1, none⟩) hb13 _
                obtain ⟨w9, hw9⟩ : ∃ x, World.setCell (World.setCell yA ⟨b13, 0, none⟩ (.int .i64 y)) ⟨b13, 1, none⟩ (.int .i64 y) = x := ⟨_, rfl⟩
                rw [hw9] at k13S kSS hBS ⊢
                clear hw9 k13A k13d kSd hB7d hqA
                obtain ⟨m0, m1, mf, mz⟩ := k13S.two
                go_wp2_with (first | (go_at_call 46; refine (rng_any _ _ _).mono ?_; rintro er yB ⟨rfl, hqB⟩; clear m0 m1 mf mz; have k13B := k13S.call hqB; obtain ⟨m0, m1, mf, mz⟩ := k13B.two) | fail)
                go_roundw
                case rel => exact ⟨j + 1, y, y, by omega, by go_num, fun _ => by have h := (Ends.start (v := nvF Lx F B) hn1).step hn1; rw [show nvF Lx F B 0 = y by rw [← hj0]; exact HNV.out] at h; subst hj0; simpa using h, by have := (k13B.set_ 0 (.int .i64 y)).set_ 1 (.int .i64 y); simpa using this, ((kSS.call hqB).far (p := ⟨b13, 0, none⟩) (by simp; omega) _).far (p := ⟨b13, 1, none⟩) (by simp; omega) _, ((hBS.trans (hqB.mono hBS.size)).setCell (p := ⟨b13, 0, none⟩) hb13 _).setCell (p := ⟨b13, 1, none⟩) hb13 _⟩
                case measure => simp [intOf]; omega
              · have hj0b : ((j : Int) == 0) = false := by rw [beq_eq_false_iff_ne]; omega
                have hEs := (hEn (by omega)).step hjn
                rw [HNV.out] at hEs
                have hmin : min lo y = if y < lo then y else lo := by split <;> omega
                have hmax : max hi y = if hi < y then y else hi := by split <;> omega
                rw [hmin, hmax] at hEs
                clear hmin hmax hEn
                obtain ⟨m0, m1, mf, mz⟩ := k13d.two
                go_wp2_with (first | (go_at_call 46; refine (rng_any _ _ _).mono ?_; rintro er yB ⟨rfl, hqB⟩; clear m0 m1 mf mz; have k13B := k13d.call hqB; obtain ⟨m0, m1, mf, mz⟩ := k13B.two) | fail)
                go_roundw
                case rel => exact ⟨j + 1, (if y < lo then y else lo), (if hi < y then y else hi), by omega, by go_num, fun _ => hEs, by have := (k13B.set_ 0 (.int .i64 (if y < lo then y else lo))).set_ 1 (.int .i64 (if hi < y then y else hi)); simpa using this, ((kSd.call hqB).far (p := ⟨b13, 0, none⟩) (by simp; omega) _).far (p := ⟨b13, 1, none⟩) (by simp; omega) _, ((hB7d.trans (hqB.mono hB7d.size)).setCell (p := ⟨b13, 0, none⟩) hb13 _).setCell (p := ⟨b13, 1, none⟩) hb13 _⟩
                case measure => simp [intOf]; omega
            · obtain rfl : j = n1 := by omega
              have he := ends_net HOK.out.log HOK.out.md HOK.out.most (by rw [HEL.out]; exact HFIT.out) (by rw [HEL.out]; exact hk1) HLX.out HAP.out.1 HAP.out.2.1 (by rw [HEL.out]; exact HFM.out) (by rw [HEL.out]; exact HBM.out) HAP.out.2.2 (by rw [HLN.out]; exact hEn hn1)
              have hns := net_small HOK.out.log (by rw [HEL.out]; exact HFIT.out) (by rw [HEL.out]; exact hk1) F B
              rw [HEL.out] at he hns
              have hN1 : (netOf st es F B (zst st z0 z1 es 0) k).1 + dsLo 0 0 d0 d1 = lo := by rw [← he.1]; simp [dsLo, drLo, drHi]
              have hN2 : (netOf st es F B (zst st z0 z1 es 0) k).2 + dsHi 0 0 d0 d1 = hi := by rw [← he.2]; simp [dsHi, drLo, drHi]
              unfold Bd at hns
              rw [← he.1, ← he.2] at hns
              have hlb : -1000000000 ≤ lo ∧ lo ≤ 1000000000 ∧ -1000000000 ≤ hi ∧ hi ≤ 1000000000 := by omega
              have HNN := Lib.hid (And.intro hN1 hN2)
              clear hN1 hN2 he hns hEn
              have kL7 := kLV.call hB7
              have hE7 := (Sl.below hEV hB7).more hB7.size
              have hFr := (hF.below hB7).more hB7.size
              have hBr := (hBs.below hB7).more hB7.size
              have hBw := hBV.trans (hB7.mono hBV.size)
              obtain ⟨l0, l1, l2, l3, lf, lz⟩ := kL7.four
              obtain ⟨s0, s1, s2, s3, s4, s5, sf, sz⟩ := kS.six
              go_upto_region 32 with (first | (go_at_call 29; refine (net_ok st z0 z1 EA k EC es FA fn fc BA bn bc 0 0 d0 d1 F B _ (by omega) HEL.out hE7 (by omega) (by omega) HFN.out HBN.out hFr hBr HS0.out HFIT.out).mono ?_; rintro e y2 ⟨rfl, hq1⟩; rw [HNN.out.1, HNN.out.2]) | fail)
              clear l0 l1 l2 l3 lf lz s0 s1 s2 s3 s4 s5 sf sz
              have hA1 := hq1.alloc hq1.size (.cells #[.int .i64 lo, .int .i64 hi] 23)
              have kN := Bx.new y2 23 #[.int .i64 lo, .int .i64 hi]
              obtain ⟨Y1, hY1⟩ : ∃ V, y2.alloc (.cells #[.int .i64 lo, .int .i64 hi] 23) = V := ⟨_, rfl⟩
              rw [hY1] at hA1 kN ⊢
              clear hY1 hq1
              have kL8 := kL7.call hA1
              have kS8 := kS.call hA1
              have k138 := k13.call hA1
              clear kL7 kS k13 hB7
              obtain ⟨l0, l1, l2, l3, lf, lz⟩ := kL8.four
              obtain ⟨s0, s1, s2, s3, s4, s5, sf, sz⟩ := kS8.six
              go_upto_region 33 with (first | (go_at_call 31; refine (paid_ok st z0 z1 EA k EC es FA fn fc BA bn bc 0 0 d0 d1 F B 0 0 lo hi _ (by omega) HEL.out ((Sl.below hE7 hA1).more hA1.size) (by omega) (by omega) HFN.out HBN.out ((hFr.below hA1).more hA1.size) ((hBr.below hA1).more hA1.size) HS0.out HFIT.out (by omega) (by omega) (by omega) HNN.out.1 HNN.out.2 hlb.1 hlb.2.1 hlb.2.2.1 hlb.2.2.2).mono ?_; rintro e y3 ⟨rfl, hq2⟩; rw [clean0, clean0]) | fail)
              clear l0 l1 l2 l3 lf lz s0 s1 s2 s3 s4 s5 sf sz
              have hA2 := (hA1.trans (hq2.mono hA1.size)).alloc (by have := hA1.size; have := hq2.size; omega) (.cells #[.int .i64 (if 0 < lo then lo else 0), .int .i64 (if 0 < hi then hi else 0)] 23)
              have kC := Bx.new y3 23 #[.int .i64 (if 0 < lo then lo else 0), .int .i64 (if 0 < hi then hi else 0)]
              have kN2 := (kN.call hq2).alloc (.cells #[.int .i64 (if 0 < lo then lo else 0), .int .i64 (if 0 < hi then hi else 0)] 23)
              have k139 := (k138.call hq2).alloc (.cells #[.int .i64 (if 0 < lo then lo else 0), .int .i64 (if 0 < hi then hi else 0)] 23)
              obtain ⟨Y2, hY2⟩ : ∃ V, y3.alloc (.cells #[.int .i64 (if 0 < lo then lo else 0), .int .i64 (if 0 < hi then hi else 0)] 23) = V := ⟨_, rfl⟩
              rw [hY2] at hA2 kC kN2 k139 ⊢
              clear hY2 hq2 kN k138 hA1 kL8 kS8
              refine AnyG.startC (by kernel_rfl) ?_
              refine AnyG.takeP (i := 0) (v := ?_) rfl (by kernel_rfl) (fun _ _ _ h => h) rfl ?_ ?_
              rotate_left
              · (intro w'; go_simp; try with_reducible rfl)
              try simp only [Act.put, List.getElem_toArray, List.getElem_cons_succ, List.getElem_cons_zero, List.setIfInBounds_toArray, List.set_cons_zero, List.set_cons_succ]
              refine AnyG.takeP (i := 1) (v := ?_) rfl (by kernel_rfl) (fun _ _ _ h => h) rfl ?_ ?_
              rotate_left
              · (intro w'; go_simp; try with_reducible rfl)
              try simp only [Act.put, List.getElem_toArray, List.getElem_cons_succ, List.getElem_cons_zero, List.setIfInBounds_toArray, List.set_cons_zero, List.set_cons_succ]
              refine AnyG.takeP (i := 2) (v := ?_) rfl (by kernel_rfl) (fun _ _ _ h => h) rfl ?_ ?_
              rotate_left
              · (intro w'; go_simp; try with_reducible rfl)
              try simp only [Act.put, List.getElem_toArray, List.getElem_cons_succ, List.getElem_cons_zero, List.setIfInBounds_toArray, List.set_cons_zero, List.set_cons_succ]
              refine AnyG.enter (fun w' : World => Below Y2.heap.size Y2 w') (fun i => true) ?_
              have hS : (fun w' : World => Below Y2.heap.size Y2 w') (World.drew _) := (Below.refl _ _).drew
              refine AnyG.takeGC (i := 3) (v := ?_) rfl (by kernel_rfl) (fun _ _ _ h => h) (by first | (simp [Region.wanted, yielded]; done) | simp [Region.wanted, yielded, undef]) ?_ hS ?_
              rotate_left
              · (intro w' hSw; (try dsimp only at hSw); go_simp; try with_reducible rfl)
              try simp only [Act.put, List.getElem_toArray, List.getElem_cons_succ, List.getElem_cons_zero, List.setIfInBounds_toArray, List.set_cons_zero, List.set_cons_succ]
              refine AnyG.takeGC (i := 4) (v := ?_) rfl (by kernel_rfl) (fun _ _ _ h => h) (by first | (simp [Region.wanted, yielded]; done) | simp [Region.wanted, yielded, undef]) ?_ hS ?_
              rotate_left
              · (intro w' hSw; (try dsimp only at hSw); go_simp; try with_reducible rfl)
              try simp only [Act.put, List.getElem_toArray, List.getElem_cons_succ, List.getElem_cons_zero, List.setIfInBounds_toArray, List.set_cons_zero, List.set_cons_succ]
              refine AnyG.takeC (i := 5) (v := ?_) rfl (by kernel_rfl) (fun _ _ _ h => h) rfl ?_ hS ?_
              rotate_left
              · (intro w' hSw; (try dsimp only at hSw); go_simp; try with_reducible rfl)
              try simp only [Act.put, List.getElem_toArray, List.getElem_cons_succ, List.getElem_cons_zero, List.setIfInBounds_toArray, List.set_cons_zero, List.set_cons_succ]
              refine AnyG.takeC (i := 6) (v := ?_) rfl (by kernel_rfl) (fun _ _ _ h => h) rfl ?_ hS ?_
              rotate_left
              · (intro w' hSw; (try dsimp only at hSw); go_simp; try with_reducible rfl)
              try simp only [Act.put, List.getElem_toArray, List.getElem_cons_succ, List.getElem_cons_zero, List.setIfInBounds_toArray, List.set_cons_zero, List.set_cons_succ]
              refine AnyG.takeGC (i := 7) (v := ?_) rfl (by kernel_rfl) (fun _ _ _ h => h) (by first | (simp [Region.wanted, yielded]; done) | simp [Region.wanted, yielded, undef]) ?_ hS ?_
              rotate_left
              · (intro w' hSw; (try dsimp only at hSw); obtain ⟨n0, n1, nf, nz⟩ := (kN2.call hSw).two; go_simp; try with_reducible rfl)
              try simp only [Act.put, List.getElem_toArray, List.getElem_cons_succ, List.getElem_cons_zero, List.setIfInBounds_toArray, List.set_cons_zero, List.set_cons_succ]
              refine AnyG.takeGC (i := 8) (v := ?_) rfl (by kernel_rfl) (fun _ _ _ h => h) (by first | (simp [Region.wanted, yielded]; done) | simp [Region.wanted, yielded, undef]) ?_ hS ?_
              rotate_left
              · (intro w' hSw; (try dsimp only at hSw); obtain ⟨m0, m1, mf, mz⟩ := (k139.call hSw).two; go_simp; try with_reducible rfl)
              try simp only [Act.put, List.getElem_toArray, List.getElem_cons_succ, List.getElem_cons_zero, List.setIfInBounds_toArray, List.set_cons_zero, List.set_cons_succ]
              refine AnyG.takeGC (i := 9) (v := ?_) rfl (by kernel_rfl) (fun _ _ _ h => h) (by first | (simp [Region.wanted, yielded]; done) | simp [Region.wanted, yielded, undef]) ?_ hS ?_
              rotate_left
              · (intro w' hSw; (try dsimp only at hSw); go_simp; try with_reducible rfl)
              try simp only [Act.put, List.getElem_toArray, List.getElem_cons_succ, List.getElem_cons_zero, List.setIfInBounds_toArray, List.set_cons_zero, List.set_cons_succ]
              refine AnyG.takeC (i := 10) (v := ?_) rfl (by kernel_rfl) (fun _ _ _ h => h) rfl ?_ hS ?_
              rotate_left
              · (intro w' hSw; (try dsimp only at hSw); go_simp; try with_reducible rfl)
              try simp only [Act.put, List.getElem_toArray, List.getElem_cons_succ, List.getElem_cons_zero, List.setIfInBounds_toArray, List.set_cons_zero, List.set_cons_succ]
              refine AnyG.takeC (i := 11) (v := ?_) rfl (by kernel_rfl) (fun _ _ _ h => h) rfl ?_ hS ?_
              rotate_left
              · (intro w' hSw; (try dsimp only at hSw); go_simp; try with_reducible rfl)
              try simp only [Act.put, List.getElem_toArray, List.getElem_cons_succ, List.getElem_cons_zero, List.setIfInBounds_toArray, List.set_cons_zero, List.set_cons_succ]
              refine AnyG.takeGC (i := 12) (v := ?_) rfl (by kernel_rfl) (fun _ _ _ h => h) (by first | (simp [Region.wanted, yielded]; done) | simp [Region.wanted, yielded, undef]) ?_ hS ?_
              rotate_left
              · (intro w' hSw; (try dsimp only at hSw); obtain ⟨c0, c1, cf, cz⟩ := (kC.call hSw).two; go_simp; try with_reducible rfl)
              try simp only [Act.put, List.getElem_toArray, List.getElem_cons_succ, List.getElem_cons_zero, List.setIfInBounds_toArray, List.set_cons_zero, List.set_cons_succ]
              refine AnyG.takeGC (i := 13) (v := ?_) rfl (by kernel_rfl) (fun _ _ _ h => h) (by first | (simp [Region.wanted, yielded]; done) | simp [Region.wanted, yielded, undef]) ?_ hS ?_
              rotate_left
              · (intro w' hSw; (try dsimp only at hSw); go_simp; try with_reducible rfl)
              try simp only [Act.put, List.getElem_toArray, List.getElem_cons_succ, List.getElem_cons_zero, List.setIfInBounds_toArray, List.set_cons_zero, List.set_cons_succ]
              refine AnyG.takeGC (i := 14) (v := ?_) rfl (by kernel_rfl) (fun _ _ _ h => h) (by first | (simp [Region.wanted, yielded]; done) | simp [Region.wanted, yielded, undef]) ?_ hS ?_
              rotate_left
              · (intro w' hSw; (try dsimp only at hSw); obtain ⟨m0, m1, mf, mz⟩ := (k139.call hSw).two; go_simp; try with_reducible rfl)
              try simp only [Act.put, List.getElem_toArray, List.getElem_cons_succ, List.getElem_cons_zero, List.setIfInBounds_toArray, List.set_cons_zero, List.set_cons_succ]
              refine AnyG.takeGC (i := 15) (v := ?_) rfl (by kernel_rfl) (fun _ _ _ h => h) (by first | (simp [Region.wanted, yielded]; done) | simp [Region.wanted, yielded, undef]) ?_ hS ?_
              rotate_left
              · (intro w' hSw; (try dsimp only at hSw); go_simp; try with_reducible rfl)
              try simp only [Act.put, List.getElem_toArray, List.getElem_cons_succ, List.getElem_cons_zero, List.setIfInBounds_toArray, List.set_cons_zero, List.set_cons_succ]
              refine AnyG.takeGC (i := 16) (v := ?_) rfl (by kernel_rfl) (fun _ _ _ h => h) (by first | (simp [Region.wanted, yielded]; done) | simp [Region.wanted, yielded, undef]) ?_ hS ?_
              rotate_left
              · (intro w' hSw; (try dsimp only at hSw); go_simp; try with_reducible rfl)
              try simp only [Act.put, List.getElem_toArray, List.getElem_cons_succ, List.getElem_cons_zero, List.setIfInBounds_toArray, List.set_cons_zero, List.set_cons_succ]
              refine AnyG.takeGC (i := 17) (v := ?_) rfl (by kernel_rfl) (fun _ _ _ h => h) (by first | (simp [Region.wanted, yielded]; done) | simp [Region.wanted, yielded, undef]) ?_ hS ?_
              rotate_left
              · (intro w' hSw; (try dsimp only at hSw); obtain ⟨m0, m1, mf, mz⟩ := (k139.call hSw).two; go_simp; try with_reducible rfl)
              try simp only [Act.put, List.getElem_toArray, List.getElem_cons_succ, List.getElem_cons_zero, List.setIfInBounds_toArray, List.set_cons_zero, List.set_cons_succ]
              refine AnyG.takeGC (i := 18) (v := ?_) rfl (by kernel_rfl) (fun _ _ _ h => h) (by first | (simp [Region.wanted, yielded]; done) | simp [Region.wanted, yielded, undef]) ?_ hS ?_
              rotate_left
              · (intro w' hSw; (try dsimp only at hSw); go_simp; try with_reducible rfl)
              try simp only [Act.put, List.getElem_toArray, List.getElem_cons_succ, List.getElem_cons_zero, List.setIfInBounds_toArray, List.set_cons_zero, List.set_cons_succ]
              refine AnyG.oneC (i := 19) (by kernel_rfl) rfl (by first | (simp [Region.wanted, yielded]; done) | simp [Region.wanted, yielded, undef]) ?_
              go_simp
              refine (rng_any _ _ _).mono ?_
              rintro er y19 ⟨rfl, hq19⟩
              refine Onward.on (hS.trans (hq19.mono hS.size)) (fun hS2 => ?_)
              clear hS
              have hS := hS2
              clear hS2
              try simp only [Act.put, List.getElem_toArray, List.getElem_cons_succ, List.getElem_cons_zero, List.setIfInBounds_toArray, List.set_cons_zero, List.set_cons_succ]
              refine AnyG.takeGC (i := 20) (v := ?_) rfl (by kernel_rfl) (fun _ _ _ h => h) (by first | (simp [Region.wanted, yielded]; done) | simp [Region.wanted, yielded, undef]) ?_ hS ?_
              rotate_left
              · (intro w' hSw; (try dsimp only at hSw); go_simp; try with_reducible rfl)
              try simp only [Act.put, List.getElem_toArray, List.getElem_cons_succ, List.getElem_cons_zero, List.setIfInBounds_toArray, List.set_cons_zero, List.set_cons_succ]
              refine AnyG.takeC (i := 21) (v := ?_) rfl (by kernel_rfl) (fun _ _ _ h => h) rfl ?_ hS ?_
              rotate_left
              · (intro w' hSw; (try dsimp only at hSw); go_simp; try with_reducible rfl)
              try simp only [Act.put, List.getElem_toArray, List.getElem_cons_succ, List.getElem_cons_zero, List.setIfInBounds_toArray, List.set_cons_zero, List.set_cons_succ]
              refine AnyG.takeC (i := 22) (v := ?_) rfl (by kernel_rfl) (fun _ _ _ h => h) rfl ?_ hS ?_
              rotate_left
              · (intro w' hSw; (try dsimp only at hSw); go_simp; try with_reducible rfl)
              try simp only [Act.put, List.getElem_toArray, List.getElem_cons_succ, List.getElem_cons_zero, List.setIfInBounds_toArray, List.set_cons_zero, List.set_cons_succ]
              refine AnyG.oneC (i := 23) (by kernel_rfl) rfl (by first | (simp [Region.wanted, yielded]; done) | simp [Region.wanted, yielded, undef]) ?_
              go_simp
              refine (awake_any _).mono ?_
              rintro er y23 ⟨rfl, hq23⟩
              have hSf := hS.trans (hq23.mono hS.size)
              refine Onward.on (hS.trans (hq23.mono hS.size)) (fun hS2 => ?_)
              clear hS
              have hS := hS2
              clear hS2
              try simp only [Act.put, List.getElem_toArray, List.getElem_cons_succ, List.getElem_cons_zero, List.setIfInBounds_toArray, List.set_cons_zero, List.set_cons_succ]
              refine AnyG.takeC (i := 24) (v := ?_) rfl (by kernel_rfl) (fun _ _ _ h => h) rfl ?_ hS ?_
              rotate_left
              · (intro w' hSw; (try dsimp only at hSw); go_simp; try with_reducible rfl)
              try simp only [Act.put, List.getElem_toArray, List.getElem_cons_succ, List.getElem_cons_zero, List.setIfInBounds_toArray, List.set_cons_zero, List.set_cons_succ]
              refine AnyG.takeC (i := 25) (v := ?_) rfl (by kernel_rfl) (fun _ _ _ h => h) rfl ?_ hS ?_
              rotate_left
              · (intro w' hSw; (try dsimp only at hSw); go_simp; try with_reducible rfl)
              try simp only [Act.put, List.getElem_toArray, List.getElem_cons_succ, List.getElem_cons_zero, List.setIfInBounds_toArray, List.set_cons_zero, List.set_cons_succ]
              refine AnyG.done (by kernel_rfl) ?_ _
              go_simp
              go_wp2_with fail
              all_goals go_ret
              all_goals exact ⟨rfl, (hBw.trans (hA2.mono hBw.size)).trans (hSf.mono (Nat.le_trans hBw.size hA2.size))⟩
end Go.Proofs.Ytgbogdckmfencaa
namespace Go.Proofs.Ytgbogdckmfencaa.bridgeEnds
open Go.ChangeShapes Go.WideShapes Go.ChangeAt Go.RowKit
theorem own : ownKnob Try.prog.godebug = none := by kernel_rfl
theorem laidOut : laidOutB Try.prog = true := by kernel_rfl
theorem cells3 : Try.prog.cellsOf 3 = 1 := by kernel_rfl
theorem bytes3 : Try.prog.bytesOf 3 = 8 := by kernel_rfl
set_option maxHeartbeats 800000 in
set_option maxRecDepth 100000 in
theorem lifted (os : Os) (started : os.Started) (H : Type) (enc : TypeId × Value → H) :
    ReturnsInHanded {} Try.checked os 7 .any (Rows.bridgeEndsSpec.pre6 enc Try.prog Try.f7 Rows.bridgeEndsRow.domain false) (Rows.bridgeEndsSpec.post enc Try.prog Try.f7 false true false false) := by
  refine returnsInHanded_of_change_sized (C := Try.checked) own started (by kernel_rfl) Try.func7
    (ChangeSpec.witness6 (enc := enc) (C := Try.checked) false ⟨#[], #[.slice none 0 0], []⟩ 8 (by kernel_rfl) (by kernel_rfl) (by kernel_rfl) (by kernel_rfl)) ?_
  intro W base args ds gs before hval0 hW _ hsz0 _
  have hsz : (DataW.weightsEach Try.prog (Try.f7.params.toList ++ Rows.bridgeEndsSpec.plain.varTypes Try.prog) (ds ++ gs)).all (· ≤ reachBytes) = true := hsz0
  clear hsz0
  have hval : ∀ (j : Nat) t v, Try.f7.params[j]? = some t → args[j]? = some v → Value.okWide Try.prog W .any base t v := hval0
  have hW' := hW
  obtain ⟨p, q, hA0, hV, rfl, _, _⟩ := hW
  have hA : DataW.TrodAll enc Try.prog W 0 (fun _ => true) true Try.f7.params.toList args.toList ds p := hA0
  rw [Try.params7] at hA hval hsz
  obtain ⟨v0, d0, rfl, rfl, h0⟩ := trodAll_one hA
  obtain ⟨rfl, rfl⟩ := trodVars_none hV
  obtain ⟨a0, len, cap, rfl⟩ := okWide_slice Try.underlying29 (hval 0 29 v0 rfl rfl)
  have h0k := h0
  obtain ⟨fuel, hf⟩ := h0
  clear hA0 hval0
  simp only [List.append_nil] at hW'
  have hlt : ∀ x ∈ p, x.block < W.heap.size := fun x hx => by simpa using hW'.lt x hx
  have hargs : ∀ (W' : World), Below W.heap.size W W' → DataW.Trod enc Try.prog W' 0 (fun b => decide (b < W.heap.size)) true 29 (.slice a0 len cap) d0 p :=
    fun W' hn => Below.trod laidOut (by kernel_rfl) (of_decide_eq_true (by kernel_rfl)) h0k hn hlt
  rcases open_ints Try.underlying29 Try.underlying3 cells3 hf with ⟨hcs, hx⟩ | ⟨a, len', cap', zs, hcs, _, hl, hm, hz, hx, hcell, hwz⟩
  · simp [Value.cells] at hcs
    obtain ⟨rfl, rfl, rfl⟩ := hcs
    simp only [Prod.mk.injEq] at hx
    obtain ⟨rfl, rfl⟩ := hx
    refine (ends_run none 0 0 [] W (by omega) rfl (Sl.nil _ _ _ _)).mono fun e W' ⟨he, hnx⟩ => ?_
    subst he
    exact ⟨_, rfl, _, _, _, [], [], [], hW', trodAll_mk1 (shut_bool Try.underlying4 true), trodAll_mk1 (hargs _ hnx), rfl, hnx.frame _, fun h => by cases h⟩
  · simp [Value.cells] at hcs
    obtain ⟨rfl, rfl, rfl⟩ := hcs
    simp only [Prod.mk.injEq] at hx
    obtain ⟨rfl, rfl⟩ := hx
    simp only [if_true] at hz
    have hreach : len * 8 ≤ 140737488351232 := by
      have := sized_slice hsz (j := 0) (t := 29) (e := 3) rfl rfl Try.underlying29
      rw [bytes3] at this
      simp only [lits, List.length_map, List.length_take, List.length_drop, reachBytes] at this
      omega
    have hlen : (zs.take len).length = len := by simp; omega
    have hsl : Sl W W.heap.size 1 (some a) (ints (zs.take len)) := by
      intro k r hr
      have hk : k < (zs.take len).length := by
        have := (List.getElem?_eq_some_iff.1 hr).1
        simpa [ints] using this
      have hkl : k < len := by rw [hlen] at hk; exact hk
      have hrr : r = [.int .i64 (zs.take len)[k]] := by
        have h1 : (ints (zs.take len))[k]? = some [.int .i64 (zs.take len)[k]] := by
          show ((zs.take len).map fun a => [Value.int .i64 a])[k]? = _
          rw [List.getElem?_map, List.getElem?_eq_getElem hk]
          rfl
        rw [h1] at hr
        exact (Option.some.inj hr).symm
      subst hrr
      have hc := hcell k (by omega)
      refine ⟨a, rfl, by have h := World.block_lt_of_cell? W _ hc; rwa [add_block] at h, fun j u hu => ?_⟩
      match j, hu with
      | 0, hu =>
        obtain rfl : Value.int .i64 (zs.take len)[k] = u := by simpa using hu
        rw [Nat.mul_one, add_add, Nat.add_zero, hc]
        simp [List.getD, List.getElem?_eq_getElem (show k < zs.length by omega)]
      | j + 1, hu => simp at hu
    refine (ends_run (some a) len cap (zs.take len) W (by omega) hlen hsl).mono fun e W' ⟨he, hnx⟩ => ?_
    subst he
    exact ⟨_, rfl, _, _, _, [], _, [], hW', trodAll_mk1 (shut_bool Try.underlying4 true), trodAll_mk1 (hargs _ hnx), rfl, hnx.frame _, fun h => by cases h⟩
end Go.Proofs.Ytgbogdckmfencaa.bridgeEnds
namespace Go.Proofs.Ytgbogdckmfencaa
theorem bridgeEnds_holds : Rows.BridgeEndsSaid :=
  OpenClaim.holds_of_wide 7 Try.f7 rfl rfl rfl rfl rfl rfl rfl ⟨rfl, rfl, rfl, rfl, rfl⟩ rfl rfl rfl rfl rfl (by kernel_rfl) Try.func7 (by kernel_rfl)
    (of_decide_eq_true (by kernel_rfl)) (by unfold Func.isWrapper; first | (rw [if_pos (by decide +kernel)]; kernel_rfl) | (rw [if_neg (by decide +kernel)]; exact ⟨rfl, rfl⟩))
    (fun os started H enc _ => bridgeEnds.lifted os started H enc)
end Go.Proofs.Ytgbogdckmfencaa
