/- MeltProved. -/
import Derived.Test.YtmemcopfeabcgaaPc
import Derived.Test.YtmemcopfeabcgaaVg
import Derived.Test.YtmemcopfeabcgaaOf
import Derived.Test.YtmemcopfeabcgaaAl
set_option linter.unusedSimpArgs false
set_option linter.unusedVariables false
namespace Go.Proofs.Ytmemcopfeabcgaa
open Go Go.RowKit
/-- What Cheapest tells: the cost, and the error. -/
def BestC (o : Od) (cc ee : Int) : Prop := (ee = 0 ∧ ∃ d, Cheap o (some d) ∧ cc = cst o d o.bs.length) ∨ (ee = 13 ∧ Cheap o none ∧ cc = 0)
theorem cheap_less {o : Od} (ho : o.Ok) {d : Nat → Int} (h : Cheap o (some d)) {p : Int} : NoneLess o p zer o.mx ↔ p ≤ cst o d o.bs.length := by
  constructor
  · intro hn
    exact hn d h.1 h.2.2.1
  · intro hp b hb hg
    have := (h.2.2.2 b hb (rk_lt hb) hg).1
    omega
theorem cheap_none {o : Od} (h : Cheap o none) (p : Int) : NoneLess o p zer o.mx := fun b hb hg => absurd hg (h b hb (rk_lt hb))
theorem cheap_cost {o : Od} (ho : o.Ok) {d : Nat → Int} (h : Cheap o (some d)) : 0 ≤ cst o d o.bs.length ∧ cst o d o.bs.length ≤ 240000000 := by
  have h6 := h.1.six4 ho.mx
  have e := cst_four (o := o) ho.b2 (fun i hi => cl4_eq d hi)
  rw [← e]
  exact cst_bd ho h6 (Nat.le_refl _)
theorem prf_vrf {o : Od} (ho : o.Ok) {p : Int} {L : List Bd} (h : prf o p 25 zer o.mx = some L) : vrf o p L = 0 ∧ L.length ≤ 4801 := by
  have h1 := prf_len 25 zer o.mx L ho.mx h
  have h2 := tot_bd ho.mx
  have hl : L.length ≤ 4801 := by omega
  have h3 := vfy_prf ho 25 zer o.mx L [] ho.mx (fun i hi => by
    unfold zer Od.mx Od.bn
    rw [List.getD_eq_getElem?_getD, List.getElem?_eq_none hi]; rfl) h
  rw [List.append_nil] at h3
  refine ⟨?_, hl⟩
  unfold vrf
  rw [if_neg (by omega), h3]
  simp
theorem bd_own_cap {w : World} {b : Nat} {A : Option Addr} {C : Nat} {L : List Bd} (h : w.ownsRow b 69 3 (.slice A L.length C) L.length (bdrs L)) : L.length ≤ C := by
  rcases h.2 with ⟨h1, h2⟩ | ⟨g, cap, cur, h1, hb, hg, hc, hm, hs, ht⟩
  · simp at h1; omega
  · simp at h1; omega
set_option maxRecDepth 100000 in
set_option maxHeartbeats 8000000 in
theorem meltProved_run (A : Option Addr) (n c : Nat) (L : List Int) (w : World) (hn : n ≤ 9000000000000000000) (hl : L.length = n) (hA : Sl w w.heap.size 1 A (ints L)) : Calls Try.prog 6 #[.slice A n c] w fun e w' => e = .returned (.bool true) ∧ Below w.heap.size w w' := by
  have HL := Lib.hid hl
  clear hl
  obtain ⟨i3, hi3, hz3, hs3, iy3⟩ := info_parts info3'
  go_enter Try.func6, Try.ntmps6
  go_upto_region 3 with (first
    | (go_at_call 13; refine (feedOf_any A n c L _ hn HL.out hA).mono ?_; rintro e w1 ⟨⟨g, rfl, hg0, hfd⟩, hb1⟩)
    | (go_at_call 14; refine (orderOf_any g 4 3 4 _ hfd (by omega) (by omega) (by omega) (by omega) (by omega) (by omega)).mono ?_; rintro e w2 ⟨o, LA, BA, lc, bc, rfl, hsm, hO0, hfd2, hgr2⟩)
    | fail)
  have hok := hsm.ok (by omega) (by omega) (by omega)
  have HSM := Lib.hid hsm
  obtain ⟨ln, hln⟩ : ∃ k, o.lm.length = k := ⟨_, rfl⟩
  obtain ⟨bn, hbn⟩ : ∃ k, o.bs.length = k := ⟨_, rfl⟩
  have hln3 : ln ≤ 3 := by rw [← hln]; exact hok.lm
  have hbn4 : bn ≤ 4 := by rw [← hbn]; exact hok.b2
  have hbn1 : 1 ≤ bn := by rw [← hbn]; exact hok.b1
  rw [hln, hbn]
  have hBw : Below w.heap.size w w2 := hb1.grown hgr2 hb1.size (fun k e => by cases e; exact hg0)
  have B1 := (Below.refl w2.heap.size w2).alloc (Nat.le_refl _) (.cells #[.slice LA ln lc, .int .i64 o.le, .int .i64 o.mo, .slice BA bn bc] 27)
  have kO := Bx.new w2 27 #[.slice LA ln lc, .int .i64 o.le, .int .i64 o.mo, .slice BA bn bc]
  have hO := hO0.call B1
  have hF := hfd2.alloc (.cells #[.slice LA ln lc, .int .i64 o.le, .int .i64 o.mo, .slice BA bn bc] 27)
  have hB := hBw.alloc hBw.size (.cells #[.slice LA ln lc, .int .i64 o.le, .int .i64 o.mo, .slice BA bn bc] 27)
  have hgl := hfd2.lt
  obtain ⟨V1, hV⟩ : ∃ V, w2.alloc (.cells #[.slice LA ln lc, .int .i64 o.le, .int .i64 o.mo, .slice BA bn bc] 27) = V := ⟨_, rfl⟩
  rw [hV] at kO hO hF hB ⊢
  obtain ⟨bO, hbO⟩ : ∃ b, w2.heap.size = b := ⟨_, rfl⟩
  rw [hbO] at kO ⊢
  have hgO : bO ≠ g := by omega
  have HLN := Lib.hid hln
  have HBN := Lib.hid hbn
  have HOK := Lib.hid hok
  have hwg := hg0
  clear hV hbO B1 hO0 hfd2 hgr2 hb1 hfd hln hbn hok hBw hsm hgl
  obtain ⟨l0, l1, l2, l3, lf', lz⟩ := kO.four
  go_upto_region 4 with (first
    | (go_at_call 20; refine (cheapest_ok LA ln lc BA bn bc o _ (by omega) (by omega) HLN.out HBN.out hO HOK.out).mono ?_; rintro e V3 ⟨⟨r1, x1, c1, hc1, rfl, hv1⟩, hq3⟩)
    | fail)
  have hb := HBN.out
  obtain ⟨cc, ee, rfl, hE, hee⟩ : ∃ (cc ee : Int), c1 = .int .i64 cc ∧ BestC o cc ee ∧ (if r1.isSome = true then (0 : Int) else 13) = ee := by
    cases r1 with
    | none =>
      obtain ⟨rfl, rfl⟩ := hv1
      exact ⟨0, 13, rfl, .inr ⟨rfl, hc1, rfl⟩, rfl⟩
    | some d =>
      obtain ⟨rfl, q1, C1, rfl, ow1⟩ := hv1
      exact ⟨_, 0, rfl, .inl ⟨rfl, d, hc1, by rw [hb]⟩, rfl⟩
  rw [hee]
  clear hee hv1 hc1 hb
  have hcc : 0 ≤ cc ∧ cc ≤ 240000000 := by
    rcases hE with ⟨_, d, hd, rfl⟩ | ⟨_, _, rfl⟩
    · exact cheap_cost HOK.out hd
    · omega
  have HE := Lib.hid hE
  clear hE
  have kO3 := kO.call hq3
  have hO3 := hO.call hq3
  have hB3 := hB.trans (hq3.mono hB.size)
  have hF3 := Fd.below hF hq3
  clear l0 l1 l2 l3 lf' lz kO hO hB hF hq3
  have T0 := FT.self hF3
  have hcw : IntKind.i64.wrap (cc + 1) = cc + 1 := IntWalk.i64_in _ (by omega)
  go_upto_region 5 with (first
    | (go_at_call 25; first
      | (have _t := T1; clear _t; refine (below_any g 50 _ T1.2 (by omega) (by omega)).mono ?_; rintro e y2 ⟨⟨r2, rfl, r21, r22⟩, hf2, hg2⟩; have T2 := T1.call hg2 hf2; clear hg2 hf2; have hrw : IntKind.i64.wrap (cc + r2) = cc + r2 := IntWalk.i64_in _ (by omega))
      | (refine (below_any g (cc + 1) _ T0.2 (by omega) (by omega)).mono ?_; rintro e y1 ⟨⟨ra, rfl, ra1, ra2⟩, hf1, hg1⟩; have T1 := T0.call hg1 hf1; clear hg1 hf1))
    | (go_at_call 24; refine (either_any g _ 4 _ (fun r => 0 ≤ r ∧ r ≤ 250000000) _ (T2.alloc _).2 (Bx.new _ _ _) (by have := T2.2.lt; omega) (by omega) (by omega) (bx4 _ ⟨by omega, by omega⟩ ⟨by omega, by omega⟩ ⟨by omega, by omega⟩ ⟨by omega, by omega⟩)).mono ?_; rintro e y3 ⟨⟨p, rfl, p1, p2⟩, hf3, hg3⟩; have T3 := (T2.alloc (.cells #[.int .i64 cc, .int .i64 (cc + 1), .int .i64 ra, .int .i64 (cc + r2)] 3)).call hg3 hf3; clear hg3 hf3)
    | fail)
  have kO4 := T3.bx kO3 hgO
  have hO4 := FT.ord T3 hF3 hO3
  have hB4 := T3.be hB3 hwg
  have hF4 := T3.2
  clear kO3 hO3 hB3 hF3 T0 T1 T2 T3 ra1 ra2 r21 r22 hrw hcw
  rcases HE.out with ⟨rfl, d, hd, hcd⟩ | ⟨rfl, hno, rfl⟩
  · by_cases hp : cc < p
    · have hn : ¬ NoneLess o p zer o.mx := fun h => by have := (cheap_less HOK.out hd).1 h; omega
      have hpn : prf o p 25 zer o.mx = none := by
        cases hq : prf o p 25 zer o.mx with
        | none => rfl
        | some L => exact absurd ((prf_some HOK.out 25 zer o.mx HOK.out.mx (wid_mx HOK.out)).1 ⟨L, hq⟩) hn
      have HPN := Lib.hid hpn
      have dp : decide (cc < p) = true := decide_eq_true hp
      clear hn hpn hd hcd hp
      obtain ⟨l0, l1, l2, l3, lf', lz⟩ := kO4.four
      go_wp2_with (first
        | (go_at_call 26; refine (prove_no LA ln lc BA bn bc o p 25 _ (by omega) (by omega) HLN.out HBN.out hO4 HOK.out (by omega) (wid_mx HOK.out) HPN.out).mono ?_; rintro e V5 ⟨rfl, hq5⟩)
        | (go_at_call 19; refine (alive_any _).mono ?_; rintro e V9 ⟨rfl, hq9⟩)
        | fail)
      go_ret
      have h9 := hq5.trans (hq9.mono hq5.size)
      exact ⟨rfl, hB4.trans (h9.mono hB4.size)⟩
    · have hn : NoneLess o p zer o.mx := (cheap_less HOK.out hd).2 (by omega)
      have dp : decide (cc < p) = false := decide_eq_false hp
      clear hd hcd hp
      obtain ⟨L, hL⟩ := (prf_some HOK.out 25 zer o.mx HOK.out.mx (wid_mx HOK.out)).2 hn
      obtain ⟨hv, hl⟩ := prf_vrf HOK.out hL
      have HL := Lib.hid hL
      have HV := Lib.hid hv
      clear hn hL hv
      obtain ⟨l0, l1, l2, l3, lf', lz⟩ := kO4.four
      go_upto_region 8 with (first
        | (go_at_call 26; refine (prove_ok LA ln lc BA bn bc o p 25 L _ (by omega) (by omega) HLN.out HBN.out hO4 HOK.out (by omega) HL.out (by omega)).mono ?_; rintro e V5 ⟨⟨PA, pc, rfl, oP⟩, hq5⟩)
        | fail)
      have kO6 := kO4.call hq5
      have hO6 := hO4.call hq5
      have hB6 := hB4.trans (hq5.mono hB4.size)
      have hS6 := own_bds oP
      have hpc := bd_own_cap oP
      clear l0 l1 l2 l3 lf' lz kO4 hO4 hB4 hq5 oP
      obtain ⟨l0, l1, l2, l3, lf', lz⟩ := kO6.four
      go_wp2_with (first
        | (go_at_call 27; refine (verify_ok LA ln lc BA bn bc o p PA L.length pc L _ (by omega) (by omega) HLN.out HBN.out hO6 HOK.out (by omega) rfl hS6 hpc (by omega)).mono ?_; rintro e V7 ⟨rfl, hq7⟩; rw [HV.out])
        | (go_at_call 19; refine (alive_any _).mono ?_; rintro e V9 ⟨rfl, hq9⟩)
        | fail)
      go_ret
      have h9 := hq7.trans (hq9.mono hq7.size)
      exact ⟨rfl, hB6.trans (h9.mono hB6.size)⟩
  · have T0 := FT.self hF4
    have hn : ∀ q, NoneLess o q zer o.mx := cheap_none hno
    clear hno p1 p2
    go_upto_region 7 with (first
      | (go_at_call 25; refine (below_any g 100 _ T0.2 (by omega) (by omega)).mono ?_; rintro e y1 ⟨⟨ra, rfl, ra1, ra2⟩, hf1, hg1⟩; have T1 := T0.call hg1 hf1; clear hg1 hf1)
      | (go_at_call 24; refine (either_any g _ 3 _ (fun r => 0 ≤ r ∧ r ≤ 300000000) _ (T1.alloc _).2 (Bx.new _ _ _) (by have := T1.2.lt; omega) (by omega) (by omega) (bx3 _ ⟨by omega, by omega⟩ ⟨by omega, by omega⟩ ⟨by omega, by omega⟩)).mono ?_; rintro e y6 ⟨⟨q, rfl, p1, p2⟩, hf3, hg3⟩; have T3 := (T1.alloc (.cells #[.int .i64 0, .int .i64 ra, .int .i64 300000000] 3)).call hg3 hf3; clear hg3 hf3)
      | fail)
    have kO5 := T3.bx kO4 hgO
    have hO5 := FT.ord T3 hF4 hO4
    have hB5 := T3.be hB4 hwg
    replace hn := hn q
    clear kO4 hO4 hB4 hF4 T0 T1 T3 ra1 ra2
    obtain ⟨L, hL⟩ := (prf_some HOK.out 25 zer o.mx HOK.out.mx (wid_mx HOK.out)).2 hn
    obtain ⟨hv, hl⟩ := prf_vrf HOK.out hL
    have HL := Lib.hid hL
    have HV := Lib.hid hv
    clear hn hL hv
    obtain ⟨l0, l1, l2, l3, lf', lz⟩ := kO5.four
    go_upto_region 8 with (first
      | (go_at_call 26; refine (prove_ok LA ln lc BA bn bc o q 25 L _ (by omega) (by omega) HLN.out HBN.out hO5 HOK.out (by omega) HL.out (by omega)).mono ?_; rintro e V5 ⟨⟨PA, pc, rfl, oP⟩, hq5⟩)
      | fail)
    have kO6 := kO5.call hq5
    have hO6 := hO5.call hq5
    have hB6 := hB5.trans (hq5.mono hB5.size)
    have hS6 := own_bds oP
    have hpc := bd_own_cap oP
    clear l0 l1 l2 l3 lf' lz kO5 hO5 hB5 hq5 oP
    obtain ⟨l0, l1, l2, l3, lf', lz⟩ := kO6.four
    go_wp2_with (first
      | (go_at_call 27; refine (verify_ok LA ln lc BA bn bc o q PA L.length pc L _ (by omega) (by omega) HLN.out HBN.out hO6 HOK.out (by omega) rfl hS6 hpc (by omega)).mono ?_; rintro e V7 ⟨rfl, hq7⟩; rw [HV.out])
      | (go_at_call 19; refine (alive_any _).mono ?_; rintro e V9 ⟨rfl, hq9⟩)
      | fail)
    go_ret
    have h9 := hq7.trans (hq9.mono hq7.size)
    exact ⟨rfl, hB6.trans (h9.mono hB6.size)⟩
end Go.Proofs.Ytmemcopfeabcgaa
