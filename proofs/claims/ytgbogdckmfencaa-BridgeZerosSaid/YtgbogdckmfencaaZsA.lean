/- The reference's Zeros and Conflict, for all logs. -/
import Derived.Test.YtgbogdckmfencaaLe
import Derived.Test.YtgbogdckmfencaaEs
import Derived.Test.YtgbogdckmfencaaZer
set_option linter.unusedSimpArgs false
set_option linter.unusedVariables false
namespace Go.Proofs.Ytgbogdckmfencaa
open Go Go.RowKit
section
variable {st z0 z1 : Int} {es : List Ev} (h : LogOk st z0 z1 es)
include h
/-- There is a truth of the first events just if each of them fits. -/
theorem smF_iff (i : Nat) (hi : i ≤ es.length) : smF st z0 z1 es (-1) 0 i = true ↔ ∀ j, j < i → (bef st z0 z1 es (j + 1)).1 ≤ (bef st z0 z1 es (j + 1)).2 := by
  cases i with
  | zero => exact ⟨fun _ j hj => by omega, fun _ => decide_eq_true h.r2⟩
  | succ i =>
    show (rngL (-200) 200).any (fitF st z0 z1 es (-1) 0 i) = true ↔ _
    rw [any_rng]
    constructor
    · rintro ⟨y, _, _, hy⟩
      obtain ⟨m, hm⟩ := fits_some st z0 z1 es
      rcases Nat.lt_or_ge m es.length with hml | hml
      · rcases Nat.lt_or_ge i m with him | him
        · exact fun j hj => hm.yes j (by omega)
        · rw [fitF_none h.ev h.s1 (by omega) h.r2 hm hml i y him (by omega)] at hy
          cases hy
      · exact fun j hj => hm.yes j (by omega)
    · intro hb
      have hbi := hb i (Nat.lt_succ_self i)
      have hlo := bef_lo h (i + 1)
      refine ⟨(bef st z0 z1 es (i + 1)).1, by omega, by omega, ?_⟩
      rw [fitF_rng h.ev h.s1 (by omega) h.r2 i _ (by omega) (fun j hj => hb j (by omega))]
      exact ⟨Int.le_refl _, hbi⟩
theorem smF_fits {m : Nat} (hm : Fits st z0 z1 es m) : smF st z0 z1 es (-1) 0 es.length = decide (m = es.length) := by
  have hi := smF_iff h es.length (Nat.le_refl _)
  cases hs : smF st z0 z1 es (-1) 0 es.length with
  | true =>
    rw [hs] at hi
    have hb := hi.1 rfl
    have : m = es.length := by
      rcases Nat.lt_or_ge m es.length with h1 | h1
      · have := hm.no h1; have := hb m h1; omega
      · have := hm.le; omega
    exact (decide_eq_true this).symm
  | false =>
    rw [hs] at hi
    have : m ≠ es.length := fun e => by
      have := hi.2 (fun j hj => hm.yes j (by omega))
      cases this
    exact (decide_eq_false this).symm
theorem gB_may (hf : Fits st z0 z1 es es.length) {i : Nat} (hi : i < es.length) (z : Int) : mayB (gB st z0 z1 es (-1) 0 es.length) i z = decide ((zst st z0 z1 es 0 i).1 ≤ z ∧ z ≤ (zst st z0 z1 es 0 i).2) := by
  have g := zst_good h hf i hi
  have hr := fitB_rng (zr := 0) (gv := -1) h.ev h.s1 (by omega) h.r2 hf (fun i hi => (zst_good h hf i hi).2.1) (es.length - 1 - i) z (by omega)
  rw [show es.length - 1 - (es.length - 1 - i) = i by omega] at hr
  unfold mayB gB
  by_cases hz : -200 ≤ z ∧ z ≤ 200
  · rw [btw_t hz, Bool.true_and, show (((z + 200).toNat : Nat) : Int) - 200 = z by omega]
    cases hb : fitB st z0 z1 es (-1) 0 es.length (es.length - 1 - i) z with
    | true => rw [hb] at hr; exact (decide_eq_true (hr.1 rfl)).symm
    | false =>
      rw [hb] at hr
      exact (decide_eq_false (fun e => by have := hr.2 e; cases this)).symm
  · rw [btw_f hz, Bool.false_and]
    exact (decide_eq_false (fun e => hz ⟨by omega, by omega⟩)).symm
end
theorem Grid.grown {w x : World} {b n : Nat} {FA : Option Addr} {q : Nat → Nat} {f : Nat → Nat → Bool} (h : Grid w b FA n q f) {b' t s m : Nat} {v : Value} {xs : List Value} (ho : w.ownsRow b' t s v m xs) (h1 : 126 ≠ t) (h2 : 4 ≠ t) (g : w.grownBy x v.ownBlock) : Grid x b FA n q f := by
  refine ⟨fun h0 => ?_, fun i hi => ⟨(h.rows i hi).1, (h.rows i hi).2.grown g (own_bx ho (h.rows i hi).2 h2)⟩, h.inj⟩
  obtain ⟨o, cur, e1, e2, e3, e4⟩ := h.out h0
  exact ⟨o, cur, e1, e2, e3.grown g (own_bx ho e3 h1), e4⟩
theorem zrows_succ (f : Nat → Int × Int) (i : Nat) : (zrows f (i + 1)).flatten = (zrows f i).flatten ++ [.int .i64 (f i).1, .int .i64 (f i).2] := by
  unfold zrows
  rw [List.range_succ, List.map_append, List.flatten_append]
  simp
set_option maxRecDepth 100000 in
set_option maxHeartbeats 4000000 in
theorem refZeros_bad (st z0 z1 : Int) (A : Option Addr) (n c : Nat) (es : List Ev) (w : World) (hn : n ≤ 9223372036854775807) (hl : es.length = n) (hA : EvsAt w w.heap.size A es) (hck : ckL st z0 z1 es ≠ 0) :
    Calls Try.prog 19 #[.agg #[.int .i64 st, .int .i64 z0, .int .i64 z1, .slice A n c]] w fun e w' => e = .returned (.tuple #[.slice none 0 0, .int .i64 (ckL st z0 z1 es)]) ∧ Below w.heap.size w w' := by
  have hz1 : (ckL st z0 z1 es != 0) = true := by simpa using hck
  have HC := Lib.hid hck
  clear hck
  go_enter Try.func19, Try.ntmps19
  go_wp2_with (first | (go_at_call 23; refine (refCheck_any st z0 z1 A n c es _ hn hl ((hA.below ((Below.refl _ _).alloc (Nat.le_refl _) _)).more (by simp))).mono ?_; rintro e w1 ⟨rfl, hb⟩; have hB := ((Below.refl w.heap.size w).alloc (Nat.le_refl _) _).trans (hb.mono (by simp)); clear hb) | fail)
  go_ret2
  exact ⟨rfl, hB⟩
/-- Between two rounds of Zeros' loop. -/
structure ZI (w : World) (bK b : Nat) (st z0 z1 : Int) (A : Option Addr) (n c : Nat) (FA : Option Addr) (FC : Nat) (q : Nat → Nat) (f : Nat → Nat → Bool) (wr : World) : Prop where
  k1 : Bx wr w.heap.size 26 #[.int .i64 st, .int .i64 z0, .int .i64 z1, .slice A n c]
  k5 : Bx wr bK 96 #[.slice FA n FC]
  gr : Grid wr b FA n q f
  hb : Below w.heap.size w wr
section
variable {w wr x : World} {bK b : Nat} {st z0 z1 : Int} {A : Option Addr} {n c : Nat} {FA : Option Addr} {FC : Nat} {q : Nat → Nat} {f : Nat → Nat → Bool}
theorem ZI.bel (I : ZI w bK b st z0 z1 A n c FA FC q f wr) (h : Below wr.heap.size wr x) : ZI w bK b st z0 z1 A n c FA FC q f x := ⟨I.k1.call h, I.k5.call h, I.gr.bel h, I.hb.trans (h.mono I.hb.size)⟩
theorem ZI.grown (I : ZI w bK b st z0 z1 A n c FA FC q f wr) {m : Nat} {v : Value} {xs : List Value} (ho : wr.ownsRow w.heap.size 23 2 v m xs) (g : wr.grownBy x v.ownBlock) : ZI w bK b st z0 z1 A n c FA FC q f x :=
  ⟨I.k1.grown g (own_bx ho I.k1 (by decide)), I.k5.grown g (own_bx ho I.k5 (by decide)), I.gr.grown ho (by decide) (by decide) g, I.hb.grown g I.hb.size (fun k hk => (ho.lt k hk).1)⟩
end
set_option maxRecDepth 100000 in
set_option maxHeartbeats 4000000 in
theorem refZeros_any (st z0 z1 : Int) (A : Option Addr) (n c : Nat) (es : List Ev) (w : World) (hl : es.length = n) (hA : EvsAt w w.heap.size A es) (hck : ckL st z0 z1 es = 0) (m : Nat) (hfit : Fits st z0 z1 es m) :
    (m < n → Calls Try.prog 19 #[.agg #[.int .i64 st, .int .i64 z0, .int .i64 z1, .slice A n c]] w fun e w' => e = .returned (.tuple #[.slice none 0 0, .int .i64 9]) ∧ Below w.heap.size w w') ∧
    (m = n → Calls Try.prog 19 #[.agg #[.int .i64 st, .int .i64 z0, .int .i64 z1, .slice A n c]] w (ZerosPost st z0 z1 es n w)) := by
  have hlog := ckL_zero hck
  have hn14 : n ≤ 14 := by have := hlog.n; omega
  have hz1 : (ckL st z0 z1 es != 0) = false := by simpa using hck
  have hsm := smF_fits hlog hfit
  rw [hl] at hsm
  have HSM := Lib.hid hsm
  have HC := Lib.hid hck
  have HL := Lib.hid hl
  have HF := Lib.hid hfit
  have HLOG := Lib.hid hlog
  have hE0 := (hA.below ((Below.refl _ _).alloc (Nat.le_refl _) (.cells #[.int .i64 st, .int .i64 z0, .int .i64 z1, .slice A n c] 26))).more (B' := (w.alloc (.cells #[.int .i64 st, .int .i64 z0, .int .i64 z1, .slice A n c] 26)).heap.size) (by simp)
  have k0 := Bx.new w 26 #[.int .i64 st, .int .i64 z0, .int .i64 z1, .slice A n c]
  have HK := Lib.hid k0
  clear hck hl hfit hlog hsm k0
  constructor
  · intro hmn
    go_enter Try.func19, Try.ntmps19
    go_upto_region 5 with (first
      | (go_at_call 23; refine (refCheck_any st z0 z1 A n c es _ (by omega) HL.out hE0).mono ?_; rintro e w1 ⟨rfl, hb⟩; rw [HC.out]; have hBC := ((Below.refl w.heap.size w).alloc (Nat.le_refl _) (.cells #[.int .i64 st, .int .i64 z0, .int .i64 z1, .slice A n c] 26)).trans (hb.mono (by simp)); have hE1 := (hE0.below hb).more hb.size; have kC := HK.out.call hb; obtain ⟨l0, l1, l2, l3, lf, lz⟩ := kC.four; clear hb)
      | (go_at_call 59; refine (learn_fwd st z0 z1 A n c es (-1) 0 n _ HL.out HLOG.out (Nat.le_refl _) (by omega) (by omega) (by omega) (by omega) hE1).mono ?_; rintro e w2 ⟨⟨FA, FC, q, rfl, hG⟩, hq2⟩)
      | fail)
    have hfl : smF st z0 z1 es (-1) 0 n = false := by rw [HSM.out]; exact decide_eq_false (by omega)
    rw [hfl]
    clear hfl l0 l1 l2 l3 lf lz
    go_wp2_with fail
    go_ret2
    exact ⟨rfl, ((hBC.trans (hq2.mono hBC.size)).alloc (by have := hBC.size; have := hq2.size; omega) _)⟩
  · rintro rfl
    go_enter Try.func19, Try.ntmps19
    go_upto_region 5 with (first
      | (go_at_call 23; refine (refCheck_any st z0 z1 A m c es _ (by omega) HL.out hE0).mono ?_; rintro e w1 ⟨rfl, hb⟩; rw [HC.out]; have hBC := ((Below.refl w.heap.size w).alloc (Nat.le_refl _) (.cells #[.int .i64 st, .int .i64 z0, .int .i64 z1, .slice A m c] 26)).trans (hb.mono (by simp)); have hE1 := (hE0.below hb).more hb.size; have kC := HK.out.call hb; obtain ⟨l0, l1, l2, l3, lf, lz⟩ := kC.four; clear hb)
      | (go_at_call 59; refine (learn_fwd st z0 z1 A m c es (-1) 0 m _ HL.out HLOG.out (Nat.le_refl _) (by omega) (by omega) (by omega) (by omega) hE1).mono ?_; rintro e w2 ⟨⟨FA, FC, q, rfl, hG⟩, hq2⟩)
      | fail)
    have hfl : smF st z0 z1 es (-1) 0 m = true := by rw [HSM.out]; simp
    rw [hfl]
    clear hfl l0 l1 l2 l3 lf lz
    have I0 : ZI w w2.heap.size w1.heap.size st z0 z1 A m c FA FC q (gB st z0 z1 es (-1) 0 m) (w2.alloc (.cells #[.slice FA m FC] 96)) := ⟨(kC.call hq2).alloc _, Bx.new _ _ _, hG.alloc _, ((hBC.trans (hq2.mono hBC.size)).alloc (by have := hBC.size; have := hq2.size; omega) _)⟩
    obtain ⟨bK, hbK⟩ : ∃ b, w2.heap.size = b := ⟨_, rfl⟩
    obtain ⟨b1, hb1⟩ : ∃ b, w1.heap.size = b := ⟨_, rfl⟩
    rw [hb1] at I0
    obtain ⟨w3, hw3⟩ : ∃ x, w2.alloc (.cells #[.slice FA m FC] 96) = x := ⟨_, rfl⟩
    rw [hw3] at I0 ⊢
    rw [hbK] at I0 ⊢
    clear hbK hb1 hw3 hG hq2 hBC kC
    obtain ⟨i3, hi3, hz3, hs3, iy3⟩ := info_parts info23
    go_wp2_with fail
    go_loopw [8, 7] (fun v8 v7 wr => ∃ (i C : Nat) (B : Option Addr), i ≤ m ∧ v8 = .int .i64 i ∧ v7 = .slice B i C ∧ wr.ownsRow w.heap.size 23 2 (.slice B i C) i (zrows (zst st z0 z1 es 0) i).flatten ∧ ZI w bK b1 st z0 z1 A m c FA FC q (gB st z0 z1 es (-1) 0 m) wr) (fun v8 _ _ => m - (intOf v8).toNat)
    case atStart => exact ⟨0, 0, none, by omega, rfl, rfl, World.ownsRow_nil _ _ _ _, I0⟩
    case round =>
      clear I0
      obtain ⟨w4, rfl⟩ : ∃ x, x = wr := ⟨_, rfl⟩
      obtain ⟨i, C, B, hi, rfl, rfl, ho, I⟩ := hrel
      obtain ⟨l0, l1, l2, l3, lf, lz⟩ := I.k1.four
      obtain ⟨a0, af, az⟩ := I.k5.one
      by_cases him : i < m
      · have hg := zst_good HLOG.out (by rw [HL.out]; exact HF.out) i (by rw [HL.out]; exact him)
        have hmy : ∀ z : Int, mayB (gB st z0 z1 es (-1) 0 m) i z = decide ((zst st z0 z1 es 0 i).1 ≤ z ∧ z ≤ (zst st z0 z1 es 0 i).2) := fun z => by
          have h := gB_may HLOG.out (by rw [HL.out]; exact HF.out) (i := i) (by rw [HL.out]; exact him) z
          rw [HL.out] at h
          exact h
        have hzs := zrows_succ (zst st z0 z1 es 0) i
        obtain ⟨a, ha⟩ : ∃ x, (zst st z0 z1 es 0 i).1 = x := ⟨_, rfl⟩
        obtain ⟨b, hb⟩ : ∃ x, (zst st z0 z1 es 0 i).2 = x := ⟨_, rfl⟩
        simp only [ha, hb] at hmy hzs
        rw [ha, hb] at hg
        have HMY := Lib.hid hmy
        have HZS := Lib.hid hzs
        clear hmy hzs ha hb
        go_wp2_with (first
          | (go_at_call 60; refine (ends_any b1 FA m FC q (gB st z0 z1 es (-1) 0 m) i a b _ I.gr hn14 him hg.1 hg.2.1 hg.2.2 HMY.out).mono ?_; rintro e y1 ⟨rfl, hq1⟩; clear l0 l1 l2 l3 lf lz a0 af az; have I1 := (I.bel hq1).bel ((Below.refl _ _).alloc (Nat.le_refl _) (.cells #[.int .i64 a, .int .i64 b] 23)); have hoA := (own_bel ho hq1).alloc (.cells #[.int .i64 a, .int .i64 b] 23); have kb := Bx.new y1 23 #[.int .i64 a, .int .i64 b])
          | (at_builtin; refine wpList_append_own _ rfl (.tmp 31) (.tmp 35) 39 rfl w.heap.size 23 i3 _ 2 16 Try.underlying39 hi3 hz3 hs3 iy3 rfl (by decide) (.slice B i C) i (zrows (zst st z0 z1 es 0) i).flatten rfl hoA ⟨y1.heap.size, 0, none⟩ 1 1 [.int .i64 a, .int .i64 b] rfl rfl (bx_news kb) (by simp [Value.oneCell']) (by unfold maxLen; omega) (by omega) I1.hb.size ?_; intro v' w' o1 o2 o3; obtain ⟨A1, C1, rfl⟩ := own_shape o1)
          | fail)
        rw [← HZS.out] at o1
        go_roundw
        case rel => exact ⟨i + 1, C1, A1, by omega, by go_num, rfl, o1, I1.grown hoA o2⟩
        case measure => simp [intOf]; omega
      · obtain rfl : i = m := by omega
        go_wp2_with fail
        obtain ⟨A', c', he, hs⟩ := own_sl ho (fun r hr => by obtain ⟨j, _, rfl⟩ := List.mem_map.1 hr; rfl) (by simp [zrows])
        simp only [Value.slice.injEq, true_and] at he
        obtain ⟨rfl, rfl⟩ := he
        go_ret2
        exact ⟨⟨_, _, rfl, hs⟩, I.hb⟩
end Go.Proofs.Ytgbogdckmfencaa

/-! The reference's Conflict; EqualLogs of equal logs. -/
namespace Go.Proofs.Ytgbogdckmfencaa
open Go Go.RowKit
set_option maxRecDepth 100000 in
set_option maxHeartbeats 4000000 in
theorem refConflict_bad (st z0 z1 : Int) (A : Option Addr) (n c : Nat) (es : List Ev) (w : World) (hn : n ≤ 9223372036854775807) (hl : es.length = n) (hA : EvsAt w w.heap.size A es) (hck : ckL st z0 z1 es ≠ 0) :
    Calls Try.prog 21 #[.agg #[.int .i64 st, .int .i64 z0, .int .i64 z1, .slice A n c]] w fun e w' => e = .returned (.tuple #[.int .i64 0, .int .i64 (ckL st z0 z1 es)]) ∧ Below w.heap.size w w' := by
  have hz1 : (ckL st z0 z1 es != 0) = true := by simpa using hck
  have HC := Lib.hid hck
  clear hck
  go_enter Try.func21, Try.ntmps21
  go_wp2_with (first | (go_at_call 23; refine (refCheck_any st z0 z1 A n c es _ hn hl ((hA.below ((Below.refl _ _).alloc (Nat.le_refl _) _)).more (by simp))).mono ?_; rintro e w1 ⟨rfl, hb⟩; have hB := ((Below.refl w.heap.size w).alloc (Nat.le_refl _) _).trans (hb.mono (by simp)); clear hb) | fail)
  go_ret2
  exact ⟨rfl, hB⟩
/-- What Conflict says of a log whose first m events fit. -/
def cfE (m n : Nat) : Int × Int := if m < n then ((m : Int), 0) else (0, 3)
set_option maxRecDepth 100000 in
set_option maxHeartbeats 4000000 in
theorem refConflict_any (st z0 z1 : Int) (A : Option Addr) (n c : Nat) (es : List Ev) (w : World) (hl : es.length = n) (hA : EvsAt w w.heap.size A es) (hck : ckL st z0 z1 es = 0) (m : Nat) (hfit : Fits st z0 z1 es m) :
    Calls Try.prog 21 #[.agg #[.int .i64 st, .int .i64 z0, .int .i64 z1, .slice A n c]] w fun e w' => e = .returned (.tuple #[.int .i64 (cfE m n).1, .int .i64 (cfE m n).2]) ∧ Below w.heap.size w w' := by
  have hlog := ckL_zero hck
  have hn14 : n ≤ 14 := by have := hlog.n; omega
  have hmn : m ≤ n := by have := hfit.le; omega
  have hz1 : (ckL st z0 z1 es != 0) = false := by simpa using hck
  have HC := Lib.hid hck
  have HL := Lib.hid hl
  have HF := Lib.hid hfit
  have HLOG := Lib.hid hlog
  have hE0 := (hA.below ((Below.refl _ _).alloc (Nat.le_refl _) (.cells #[.int .i64 st, .int .i64 z0, .int .i64 z1, .slice A n c] 26))).more (B' := (w.alloc (.cells #[.int .i64 st, .int .i64 z0, .int .i64 z1, .slice A n c] 26)).heap.size) (by simp)
  have HK := Lib.hid (Bx.new w 26 #[.int .i64 st, .int .i64 z0, .int .i64 z1, .slice A n c])
  clear hck hl hfit hlog
  go_enter Try.func21, Try.ntmps21
  go_wp2_with (first
    | (go_at_call 23; refine (refCheck_any st z0 z1 A n c es _ (by omega) HL.out hE0).mono ?_; rintro e w1 ⟨rfl, hb⟩; rw [HC.out]; have hBC := ((Below.refl w.heap.size w).alloc (Nat.le_refl _) (.cells #[.int .i64 st, .int .i64 z0, .int .i64 z1, .slice A n c] 26)).trans (hb.mono (by simp)); have kC := HK.out.call hb; clear hb)
    | fail)
  go_loopw [5] (fun v5 wr => ∃ i : Nat, i ≤ m ∧ v5 = .int .i64 i ∧ Bx wr w.heap.size 26 #[.int .i64 st, .int .i64 z0, .int .i64 z1, .slice A n c] ∧ Below w.heap.size w wr) (fun v5 _ => n - (intOf v5).toNat)
  case atStart => exact ⟨0, by omega, rfl, kC, hBC⟩
  case round =>
    clear kC hBC
    obtain ⟨w4, rfl⟩ : ∃ x, x = wr := ⟨_, rfl⟩
    obtain ⟨i, hi, rfl, kL, hB⟩ := hrel
    obtain ⟨l0, l1, l2, l3, lf, lz⟩ := kL.four
    by_cases hin : i < n
    · have hle := learn_fwd st z0 z1 A n c es (-1) 0 (i + 1) w4 HL.out HLOG.out (by omega) (by omega) (by omega) (by omega) (by omega) ((hA.below hB).more hB.size)
      rw [show ((i + 1 : Nat) : Int) = (i : Int) + 1 by omega] at hle
      have HLE := Lib.hid hle
      have hwi : IntKind.i64.wrap ((i : Int) + 1) = (i : Int) + 1 := IntWalk.i64_in _ (by omega)
      have hsi := smF_iff HLOG.out (i + 1) (by rw [HL.out]; omega)
      have hsm : smF st z0 z1 es (-1) 0 (i + 1) = decide (i < m) := by
        cases hs : smF st z0 z1 es (-1) 0 (i + 1) with
        | true =>
          rw [hs] at hsi
          have hb := hsi.1 rfl i (Nat.lt_succ_self i)
          refine (decide_eq_true ?_).symm
          rcases Nat.lt_or_ge i m with h | h
          · exact h
          · obtain rfl : i = m := by omega
            have := HF.out.no (by rw [HL.out]; exact hin)
            omega
        | false =>
          rw [hs] at hsi
          refine (decide_eq_false fun h => ?_).symm
          have := hsi.2 fun j hj => HF.out.yes j (by omega)
          cases this
      have HSM := Lib.hid hsm
      clear hle hsi hsm
      by_cases him : i < m
      · have hd : decide (i < m) = true := decide_eq_true him
        go_wp2_with (first | (go_at_call 59; refine HLE.out.mono ?_; rintro e w5 ⟨⟨FA, FC, q, rfl, hG⟩, hq⟩; rw [HSM.out, hd]) | fail)
        go_roundw
        case rel => exact ⟨i + 1, by omega, by go_num, (kL.call hq).alloc _, (hB.trans (hq.mono hB.size)).alloc (by have := hB.size; have := hq.size; omega) _⟩
        case measure => simp [intOf]; omega
      · obtain rfl : i = m := by omega
        have hd : decide (i < i) = false := by simp
        go_wp2_with (first | (go_at_call 59; refine HLE.out.mono ?_; rintro e w5 ⟨⟨FA, FC, q, rfl, hG⟩, hq⟩; rw [HSM.out, hd]) | fail)
        go_ret2
        refine ⟨?_, (hB.trans (hq.mono hB.size)).alloc (by have := hB.size; have := hq.size; omega) _⟩
        rw [show cfE i n = ((i : Int), 0) from if_pos hin]
        rfl
    · have hmn2 : m = n := by omega
      have hi2 : i = n := by omega
      subst hi2
      go_wp2_with fail
      go_ret2
      refine ⟨?_, hB⟩
      rw [show cfE m i = ((0 : Int), 3) from if_neg (by omega)]
      rfl
set_option maxRecDepth 100000 in
set_option maxHeartbeats 4000000 in
theorem equalLogs_same (st z0 z1 : Int) (A : Option Addr) (n c : Nat) (A2 : Option Addr) (c2 : Nat) (es : List Ev) (w : World) (hn : n ≤ 9000000000000000000) (hl : es.length = n) (hA : EvsAt w w.heap.size A es) (hA2 : EvsAt w w.heap.size A2 es) :
    Calls Try.prog 25 #[.agg #[.int .i64 st, .int .i64 z0, .int .i64 z1, .slice A n c], .agg #[.int .i64 st, .int .i64 z0, .int .i64 z1, .slice A2 n c2]] w fun e w' => e = .returned (.bool true) ∧ Below w.heap.size w w' := by
  have HL := Lib.hid hl
  clear hl
  have k2 := (Bx.new w 26 #[.int .i64 st, .int .i64 z0, .int .i64 z1, .slice A n c]).alloc (.cells #[.int .i64 st, .int .i64 z0, .int .i64 z1, .slice A2 n c2] 26)
  have k3 := Bx.at (w.alloc (.cells #[.int .i64 st, .int .i64 z0, .int .i64 z1, .slice A n c] 26)) 26 #[.int .i64 st, .int .i64 z0, .int .i64 z1, .slice A2 n c2] (n := w.heap.size + 1) (by simp)
  have hB := ((Below.refl w.heap.size w).alloc (Nat.le_refl _) (.cells #[.int .i64 st, .int .i64 z0, .int .i64 z1, .slice A n c] 26)).alloc (by simp) (.cells #[.int .i64 st, .int .i64 z0, .int .i64 z1, .slice A2 n c2] 26)
  have H0 := Lib.hid (And.intro k2 (And.intro k3 hB))
  clear k2 k3 hB
  go_enter Try.func25, Try.ntmps25
  go_wp2_with fail
  go_loopw [6, 5] (fun v6 v5 wr => ∃ i : Nat, i ≤ n ∧ v6 = .int .i64 i ∧ v5 = .bool true ∧ Bx wr w.heap.size 26 #[.int .i64 st, .int .i64 z0, .int .i64 z1, .slice A n c] ∧ Bx wr (w.heap.size + 1) 26 #[.int .i64 st, .int .i64 z0, .int .i64 z1, .slice A2 n c2] ∧ Below w.heap.size w wr) (fun v6 _ _ => n - (intOf v6).toNat)
  case atStart => exact ⟨0, by omega, rfl, rfl, H0.out.1, H0.out.2.1, H0.out.2.2⟩
  case round =>
    clear H0
    obtain ⟨w4, rfl⟩ : ∃ x, x = wr := ⟨_, rfl⟩
    obtain ⟨i, hi, rfl, rfl, k2, k3, hB⟩ := hrel
    by_cases hin : i < n
    · have hie : i < es.length := by rw [HL.out]; exact hin
      obtain ⟨ad, rfl, hab, q0, q1, q2, q3, q4⟩ := (EvsAt.below hA hB).at_ hie
      obtain ⟨bd, rfl, hbb, p0, p1, p2, p3, p4⟩ := (EvsAt.below hA2 hB).at_ hie
      generalize es[i] = e at *
      obtain ⟨kd, sh, ld, c0, c1⟩ := e
      dsimp only at *
      have HQ := Lib.hid (And.intro q0 (And.intro q1 (And.intro q2 (And.intro q3 q4))))
      have HP := Lib.hid (And.intro p0 (And.intro p1 (And.intro p2 (And.intro p3 p4))))
      have hsz := hB.size
      clear q0 q1 q2 q3 q4 p0 p1 p2 p3 p4 hA hA2
      obtain ⟨l0, l1, l2, l3, lf, lz⟩ := k2.four
      obtain ⟨m0, m1, m2, m3, mf, mz⟩ := k3.four
      go_upto_region 5 with fail
      clear l0 l1 l2 l3 lf lz m0 m1 m2 m3 mf mz
      refine AnyG.startC (by kernel_rfl) ?_
      refine AnyG.takeP (i := 0) (v := ?_) rfl (by kernel_rfl) (fun _ _ _ h => h) rfl ?_ ?_
      rotate_left
      · (intro w'; go_simp; try with_reducible rfl)
      try simp only [Act.put, List.getElem_toArray, List.getElem_cons_succ, List.getElem_cons_zero, List.setIfInBounds_toArray, List.set_cons_zero, List.set_cons_succ]
      refine AnyG.takeP (i := 2) (v := ?_) rfl (by kernel_rfl) (fun _ _ _ h => h) rfl ?_ ?_
      rotate_left
      · (intro w'; go_simp; try with_reducible rfl)
      try simp only [Act.put, List.getElem_toArray, List.getElem_cons_succ, List.getElem_cons_zero, List.setIfInBounds_toArray, List.set_cons_zero, List.set_cons_succ]
      refine AnyG.takeP (i := 5) (v := ?_) rfl (by kernel_rfl) (fun _ _ _ h => h) rfl ?_ ?_
      rotate_left
      · (intro w'; go_simp; try with_reducible rfl)
      try simp only [Act.put, List.getElem_toArray, List.getElem_cons_succ, List.getElem_cons_zero, List.setIfInBounds_toArray, List.set_cons_zero, List.set_cons_succ]
      refine AnyG.takeP (i := 7) (v := ?_) rfl (by kernel_rfl) (fun _ _ _ h => h) rfl ?_ ?_
      rotate_left
      · (intro w'; go_simp; try with_reducible rfl)
      try simp only [Act.put, List.getElem_toArray, List.getElem_cons_succ, List.getElem_cons_zero, List.setIfInBounds_toArray, List.set_cons_zero, List.set_cons_succ]
      refine AnyG.enter (fun w' : World => Below w4.heap.size w4 w') (fun i => true) ?_
      have hS : (fun w' : World => Below w4.heap.size w4 w') (World.drew _) := (Below.refl _ _).drew
      refine AnyG.takeC (i := 1) (v := ?_) rfl (by kernel_rfl) (fun _ _ _ h => h) rfl ?_ hS ?_
      rotate_left
      · (intro w' hSw; (try dsimp only at hSw); obtain ⟨l0, l1, l2, l3, lf, lz⟩ := (k2.call hSw).four; go_simp; try with_reducible rfl)
      try simp only [Act.put, List.getElem_toArray, List.getElem_cons_succ, List.getElem_cons_zero, List.setIfInBounds_toArray, List.set_cons_zero, List.set_cons_succ]
      refine AnyG.takeC (i := 3) (v := ?_) rfl (by kernel_rfl) (fun _ _ _ h => h) rfl ?_ hS ?_
      rotate_left
      · (intro w' hSw; (try dsimp only at hSw); go_simp; try with_reducible rfl)
      try simp only [Act.put, List.getElem_toArray, List.getElem_cons_succ, List.getElem_cons_zero, List.setIfInBounds_toArray, List.set_cons_zero, List.set_cons_succ]
      refine AnyG.takeC (i := 4) (v := ?_) rfl (by kernel_rfl) (fun _ _ _ h => h) rfl ?_ hS ?_
      rotate_left
      · (intro w' hSw; (try dsimp only at hSw); have q0 := (hSw.cell (p := ad.add (i * 5)) (by show (ad.add (i * 5)).block < _; rw [add_block]; omega)).trans HQ.out.1; have q1 := (hSw.cell (p := ⟨(ad.add (i * 5)).block, (ad.add (i * 5)).off + 1, none⟩) (by show (ad.add (i * 5)).block < _; rw [add_block]; omega)).trans HQ.out.2.1; have q2 := (hSw.cell (p := ⟨(ad.add (i * 5)).block, (ad.add (i * 5)).off + 2, none⟩) (by show (ad.add (i * 5)).block < _; rw [add_block]; omega)).trans HQ.out.2.2.1; have q3 := (hSw.cell (p := ⟨(ad.add (i * 5)).block, (ad.add (i * 5)).off + 3, none⟩) (by show (ad.add (i * 5)).block < _; rw [add_block]; omega)).trans HQ.out.2.2.2.1; have q4 := (hSw.cell (p := ⟨(ad.add (i * 5)).block, (ad.add (i * 5)).off + 4, none⟩) (by show (ad.add (i * 5)).block < _; rw [add_block]; omega)).trans HQ.out.2.2.2.2; go_simp; try with_reducible rfl)
      try simp only [Act.put, List.getElem_toArray, List.getElem_cons_succ, List.getElem_cons_zero, List.setIfInBounds_toArray, List.set_cons_zero, List.set_cons_succ]
      refine AnyG.takeC (i := 6) (v := ?_) rfl (by kernel_rfl) (fun _ _ _ h => h) rfl ?_ hS ?_
      rotate_left
      · (intro w' hSw; (try dsimp only at hSw); obtain ⟨m0, m1, m2, m3, mf, mz⟩ := (k3.call hSw).four; go_simp; try with_reducible rfl)
      try simp only [Act.put, List.getElem_toArray, List.getElem_cons_succ, List.getElem_cons_zero, List.setIfInBounds_toArray, List.set_cons_zero, List.set_cons_succ]
      refine AnyG.takeC (i := 8) (v := ?_) rfl (by kernel_rfl) (fun _ _ _ h => h) rfl ?_ hS ?_
      rotate_left
      · (intro w' hSw; (try dsimp only at hSw); go_simp; try with_reducible rfl)
      try simp only [Act.put, List.getElem_toArray, List.getElem_cons_succ, List.getElem_cons_zero, List.setIfInBounds_toArray, List.set_cons_zero, List.set_cons_succ]
      refine AnyG.takeC (i := 9) (v := ?_) rfl (by kernel_rfl) (fun _ _ _ h => h) rfl ?_ hS ?_
      rotate_left
      · (intro w' hSw; (try dsimp only at hSw); have p0 := (hSw.cell (p := bd.add (i * 5)) (by show (bd.add (i * 5)).block < _; rw [add_block]; omega)).trans HP.out.1; have p1 := (hSw.cell (p := ⟨(bd.add (i * 5)).block, (bd.add (i * 5)).off + 1, none⟩) (by show (bd.add (i * 5)).block < _; rw [add_block]; omega)).trans HP.out.2.1; have p2 := (hSw.cell (p := ⟨(bd.add (i * 5)).block, (bd.add (i * 5)).off + 2, none⟩) (by show (bd.add (i * 5)).block < _; rw [add_block]; omega)).trans HP.out.2.2.1; have p3 := (hSw.cell (p := ⟨(bd.add (i * 5)).block, (bd.add (i * 5)).off + 3, none⟩) (by show (bd.add (i * 5)).block < _; rw [add_block]; omega)).trans HP.out.2.2.2.1; have p4 := (hSw.cell (p := ⟨(bd.add (i * 5)).block, (bd.add (i * 5)).off + 4, none⟩) (by show (bd.add (i * 5)).block < _; rw [add_block]; omega)).trans HP.out.2.2.2.2; go_simp; try with_reducible rfl)
      try simp only [Act.put, List.getElem_toArray, List.getElem_cons_succ, List.getElem_cons_zero, List.setIfInBounds_toArray, List.set_cons_zero, List.set_cons_succ]
      refine AnyG.takeC (i := 10) (v := ?_) rfl (by kernel_rfl) (fun _ _ _ h => h) rfl ?_ hS ?_
      rotate_left
      · (intro w' hSw; (try dsimp only at hSw); go_simp; try with_reducible rfl)
      try simp only [Act.put, List.getElem_toArray, List.getElem_cons_succ, List.getElem_cons_zero, List.setIfInBounds_toArray, List.set_cons_zero, List.set_cons_succ]
      refine AnyG.takeC (i := 11) (v := ?_) rfl (by kernel_rfl) (fun _ _ _ h => h) rfl ?_ hS ?_
      rotate_left
      · (intro w' hSw; (try dsimp only at hSw); go_simp; try with_reducible rfl)
      try simp only [Act.put, List.getElem_toArray, List.getElem_cons_succ, List.getElem_cons_zero, List.setIfInBounds_toArray, List.set_cons_zero, List.set_cons_succ]
      refine AnyG.done (by kernel_rfl) ?_ _
      go_simp
      go_wp2_with fail
      go_roundw
      case rel => exact ⟨i + 1, by omega, by go_num, by first | rfl | simp, k2.drew, k3.drew, hB.drew⟩
      case measure => simp [intOf]; omega
    · obtain rfl : i = n := by omega
      obtain ⟨l0, l1, l2, l3, lf, lz⟩ := k2.four
      obtain ⟨m0, m1, m2, m3, mf, mz⟩ := k3.four
      go_wp2_with fail
      go_ret
      exact ⟨rfl, hB⟩
end Go.Proofs.Ytgbogdckmfencaa

/-! Zeros and Conflict: the program and the reference say the same, for all logs. -/
namespace Go.Proofs.Ytgbogdckmfencaa
open Go Go.RowKit
set_option maxRecDepth 100000 in
set_option maxHeartbeats 4000000 in
theorem copyLog_20 (st z0 z1 : Int) (A : Option Addr) (n c : Nat) (es : List Ev) (w : World) (hn : n ≤ 1000) (hl : es.length = n) (hA : EvsAt w w.heap.size A es) :
    Calls Try.prog 17 #[.agg #[.int .i64 st, .int .i64 z0, .int .i64 z1, .slice A n c]] w fun e w' => (∃ A' c', e = .returned (.agg #[.int .i64 st, .int .i64 z0, .int .i64 z1, .slice A' n c']) ∧ w'.ownsRow w.heap.size 28 5 (.slice A' n c') n (es.map Ev.cells).flatten) ∧ Below w.heap.size w w' := by
  have HL := Lib.hid hl
  clear hl
  obtain ⟨i3, hi3, hz3, hs3, iy3⟩ := info_parts info28
  have hb0 : Below w.heap.size w (((w.alloc (.cells #[.int .i64 st, .int .i64 z0, .int .i64 z1, .slice A n c] 26)).alloc (.cells #[.int .i64 0, .int .i64 0, .int .i64 0, .slice none 0 0] 26)).alloc (.cells #[] 28)) := (((Below.refl _ _).alloc (Nat.le_refl _) _).alloc (by simp) _).alloc (by simp; omega) _
  have k1 := ((Bx.new w 26 #[.int .i64 st, .int .i64 z0, .int .i64 z1, .slice A n c]).alloc (.cells #[.int .i64 0, .int .i64 0, .int .i64 0, .slice none 0 0] 26)).alloc (.cells #[] 28)
  have k2 := (Bx.at (w.alloc (.cells #[.int .i64 st, .int .i64 z0, .int .i64 z1, .slice A n c] 26)) 26 #[.int .i64 0, .int .i64 0, .int .i64 0, .slice none 0 0] (n := w.heap.size + 1) (by simp)).alloc (.cells #[] 28)
  have how0 := World.ownsRow_made (w := (w.alloc (.cells #[.int .i64 st, .int .i64 z0, .int .i64 z1, .slice A n c] 26)).alloc (.cells #[.int .i64 0, .int .i64 0, .int .i64 0, .slice none 0 0] 26)) (base := w.heap.size) (e := 28) (size := 5) #[] 0 (by simp; omega) (by unfold maxLen; omega) (by simp)
  have hsz2 : ((w.alloc (.cells #[.int .i64 st, .int .i64 z0, .int .i64 z1, .slice A n c] 26)).alloc (.cells #[.int .i64 0, .int .i64 0, .int .i64 0, .slice none 0 0] 26)).heap.size = w.heap.size + 1 + 1 := by simp
  have how : (((w.alloc (.cells #[.int .i64 st, .int .i64 z0, .int .i64 z1, .slice A n c] 26)).alloc (.cells #[.int .i64 0, .int .i64 0, .int .i64 0, .slice none 0 0] 26)).alloc (.cells #[] 28)).ownsRow w.heap.size 28 5 (.slice (some ⟨w.heap.size + 1 + 1, 0, none⟩) 0 0) 0 [] := hsz2 ▸ how0
  clear how0 hsz2
  have hE := hA.below hb0
  cases A with
  | none =>
    have hn0 : n = 0 := by
      rcases Nat.eq_zero_or_pos n with h | h
      · exact h
      · obtain ⟨ad, h1, _⟩ := hA.at_ (k := 0) (by rw [HL.out]; exact h)
        cases h1
    subst hn0
    go_enter Try.func17, Try.ntmps17
    go_wp2_with fail
    obtain rfl : es = [] := List.eq_nil_of_length_eq_zero HL.out
    refine bodyPost_ret (v := .agg #[.int .i64 st, .int .i64 z0, .int .i64 z1, .slice (some ⟨w.heap.size + 1 + 1, 0, none⟩) 0 0]) (by simp [results, Try.results17, go_sem]) rfl ⟨⟨_, _, rfl, by simp, .inr ⟨w.heap.size + 1 + 1, 0, #[], rfl, by omega, Bx.at _ 28 #[] (by simp), by omega, by unfold maxLen; omega, by simp, by simp⟩⟩, ?_⟩
    exact (((Below.refl _ _).alloc (Nat.le_refl _) _).alloc (by simp) _).alloc (by simp; omega) _
  | some a =>
    have hcs := evs_cells hE
    have h1c : ∀ u ∈ (es.map Ev.cells).flatten, u.oneCell' = true := by
      intro u hu
      obtain ⟨r, hr, hur⟩ := List.mem_flatten.1 hu
      obtain ⟨e, _, rfl⟩ := List.mem_map.1 hr
      simp [Ev.cells] at hur
      rcases hur with rfl | rfl | rfl | rfl | rfl <;> simp [Value.oneCell']
    have hlen : (es.map Ev.cells).flatten.length = n * 5 := by rw [evs_flat, HL.out]
    obtain ⟨xs, hxs⟩ : ∃ xs, (es.map Ev.cells).flatten = xs := ⟨_, rfl⟩
    rw [hxs] at hcs h1c hlen ⊢
    go_enter Try.func17, Try.ntmps17
    go_wp2_with (first
      | (at_builtin; refine wpList_append_own _ rfl (.tmp 3) (.tmp 5) 24 rfl w.heap.size 28 i3 _ 5 40 Try.underlying24 hi3 hz3 hs3 iy3 rfl (by decide) (.slice (some ⟨w.heap.size + 1 + 1, 0, none⟩) 0 0) 0 [] rfl how a n c xs rfl hlen hcs h1c (by unfold maxLen; omega) (by omega) (by simp <;> omega) ?_; intro v' w' o1 o2 o3; obtain ⟨A', C', rfl⟩ := own_shape o1; have k1b := k1.grown o2 (by simp [Value.ownBlock] <;> omega); have k2b := k2.grown o2 (by simp [Value.ownBlock] <;> omega); obtain ⟨a0, a1, a2, a3, af, az⟩ := k1b.four; obtain ⟨r0, r1, r2, r3, rf, rz⟩ := k2b.four)
      | fail)
    have o1' : w'.ownsRow w.heap.size 28 5 (.slice A' n C') n xs := by simpa using o1
    have q1 := own_bx o1' k1b (by decide)
    have q2 := own_bx o1' k2b (by decide)
    have hB : Below w.heap.size w w' := hb0.grown o2 hb0.size (fun k e => by simp [Value.ownBlock] at e <;> omega)
    refine bodyPost_ret (v := .agg #[.int .i64 st, .int .i64 z0, .int .i64 z1, .slice A' n C']) (by simp [results, Try.results17, go_sem, r0, r1, r2, r3, World.cell?_setCell_same', World.cell?_setCell_other]) rfl ⟨⟨_, _, rfl, ?_⟩, ?_⟩
    · exact ((((o1'.kept (grown_set _ _ _ _) (.inr (Ne.symm q1))).kept (grown_set _ _ _ _) (.inr (Ne.symm q2))).kept (grown_set _ _ _ _) (.inr (Ne.symm q2))).kept (grown_set _ _ _ _) (.inr (Ne.symm q2))).kept (grown_set _ _ _ _) (.inr (Ne.symm q2))
    · repeat (first | exact hB | refine Below.setCell ?_ (by simp) _)
theorem prs_zrows (f : Nat → Int × Int) (n : Nat) : prs ((List.range n).map f) = zrows f n := by
  unfold prs zrows
  rw [List.map_map]
  rfl
def ZerosSame (st z0 z1 : Int) (es : List Ev) (E : Int) (zL : List (Int × Int)) (fn : Nat) : Prop := ∀ (A : Option Addr) (c : Nat) (w : World), EvsAt w w.heap.size A es →
  Calls Try.prog fn #[.agg #[.int .i64 st, .int .i64 z0, .int .i64 z1, .slice A es.length c]] w fun e w' => (∃ A' c', e = .returned (.tuple #[.slice A' zL.length c', .int .i64 E]) ∧ Sl w' w'.heap.size 2 A' (prs zL)) ∧ Below w.heap.size w w'
theorem zeros_both (st z0 z1 : Int) (es : List Ev) (hn : es.length ≤ 1000) : ∃ (E : Int) (zL : List (Int × Int)), zL.length ≤ 1000 ∧ ZerosSame st z0 z1 es E zL 18 ∧ ZerosSame st z0 z1 es E zL 19 := by
  by_cases hck : ckL st z0 z1 es = 0
  · obtain ⟨m, hm⟩ := fits_some st z0 z1 es
    by_cases hml : m < es.length
    · refine ⟨9, [], by simp, fun A c w hA => ?_, fun A c w hA => ?_⟩
      · refine (zeros_none st z0 z1 A _ c es w rfl hA hck m hm hml).mono ?_
        rintro e w' ⟨rfl, hb⟩
        exact ⟨⟨none, 0, rfl, Sl.nil _ _ _ _⟩, hb⟩
      · refine ((refZeros_any st z0 z1 A _ c es w rfl hA hck m hm).1 hml).mono ?_
        rintro e w' ⟨rfl, hb⟩
        exact ⟨⟨none, 0, rfl, Sl.nil _ _ _ _⟩, hb⟩
    · have hme : m = es.length := by have := hm.le; omega
      subst hme
      refine ⟨0, (List.range es.length).map (zst st z0 z1 es 0), by simp; exact hn, fun A c w hA => ?_, fun A c w hA => ?_⟩
      · refine (zeros_all st z0 z1 A _ c es w rfl hA hck hm).mono ?_
        rintro e w' ⟨⟨A', c', rfl, hs⟩, hb⟩
        exact ⟨⟨A', c', by simp, by rw [prs_zrows]; exact hs⟩, hb⟩
      · refine ((refZeros_any st z0 z1 A _ c es w rfl hA hck _ hm).2 rfl).mono ?_
        rintro e w' ⟨⟨A', c', rfl, hs⟩, hb⟩
        exact ⟨⟨A', c', by simp, by rw [prs_zrows]; exact hs⟩, hb⟩
  · refine ⟨ckL st z0 z1 es, [], by simp, fun A c w hA => ?_, fun A c w hA => ?_⟩
    · refine (zeros_bad st z0 z1 A _ c es w (by omega) rfl hA hck).mono ?_
      rintro e w' ⟨rfl, hb⟩
      exact ⟨⟨none, 0, rfl, Sl.nil _ _ _ _⟩, hb⟩
    · refine (refZeros_bad st z0 z1 A _ c es w (by omega) rfl hA hck).mono ?_
      rintro e w' ⟨rfl, hb⟩
      exact ⟨⟨none, 0, rfl, Sl.nil _ _ _ _⟩, hb⟩
def ConflictSame (st z0 z1 : Int) (es : List Ev) (M E : Int) (fn : Nat) : Prop := ∀ (A : Option Addr) (c : Nat) (w : World), EvsAt w w.heap.size A es →
  Calls Try.prog fn #[.agg #[.int .i64 st, .int .i64 z0, .int .i64 z1, .slice A es.length c]] w fun e w' => e = .returned (.tuple #[.int .i64 M, .int .i64 E]) ∧ Below w.heap.size w w'
theorem conflict_both (st z0 z1 : Int) (es : List Ev) (hn : es.length ≤ 1000) : ∃ M E : Int, ConflictSame st z0 z1 es M E 20 ∧ ConflictSame st z0 z1 es M E 21 := by
  by_cases hck : ckL st z0 z1 es = 0
  · obtain ⟨m, hm⟩ := fits_some st z0 z1 es
    by_cases hml : m < es.length
    · refine ⟨m, 0, fun A c w hA => conflict_at st z0 z1 A _ c es w rfl hA hck m hm hml, fun A c w hA => ?_⟩
      have h := refConflict_any st z0 z1 A _ c es w rfl hA hck m hm
      rw [show cfE m es.length = ((m : Int), 0) from if_pos hml] at h
      exact h
    · have hme : m = es.length := by have := hm.le; omega
      subst hme
      refine ⟨0, 3, fun A c w hA => conflict_ok st z0 z1 A _ c es w rfl hA hck hm, fun A c w hA => ?_⟩
      have h := refConflict_any st z0 z1 A _ c es w rfl hA hck _ hm
      rw [show cfE es.length es.length = ((0 : Int), 3) from if_neg (by omega)] at h
      exact h
  · exact ⟨0, ckL st z0 z1 es, fun A c w hA => conflict_bad st z0 z1 A _ c es w (by omega) rfl hA hck, fun A c w hA => refConflict_bad st z0 z1 A _ c es w (by omega) rfl hA hck⟩
end Go.Proofs.Ytgbogdckmfencaa
