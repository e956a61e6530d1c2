/- swarflaw06.wide. -/
import Derived.Test.YtmemcopfeabcgaaRc
import Derived.Test.YtmemcopfeabcgaaCa
import Derived.Test.YtmemcopfeabcgaaEo
import Derived.Test.YtmemcopfeabcgaaHu
import Derived.Test.YtmemcopfeabcgaaO6
import Derived.Deep.DeepCutAuto
set_option linter.unusedSimpArgs false
set_option linter.unusedVariables false
namespace Go.Proofs.Ytmemcopfeabcgaa
open Go Go.RowKit
set_option maxRecDepth 100000 in
set_option maxHeartbeats 4000000 in
theorem wide_any (LA : Option Addr) (ln lc : Nat) (BA : Option Addr) (bn bc : Nat) (o : Od) (w : World) (hln : ln ≤ 20) (hbn : bn ≤ 20) (hl : o.lm.length = ln) (hb' : o.bs.length = bn) (hA : OrdAt w w.heap.size LA BA o) (hG : ∀ b ∈ o.bs, b.gr.length ≤ 1000) :
    Calls Try.prog 40 #[.agg #[.slice LA ln lc, .int .i64 o.le, .int .i64 o.mo, .slice BA bn bc]] w fun e w' => (∃ hb : Bool, e = .returned (.bool hb)) ∧ Below w.heap.size w w' := by
  have k1 := Bx.new w 27 #[.slice LA ln lc, .int .i64 o.le, .int .i64 o.mo, .slice BA bn bc]
  have B0 := (Below.refl w.heap.size w).alloc (Nat.le_refl _) (.cells #[.slice LA ln lc, .int .i64 o.le, .int .i64 o.mo, .slice BA bn bc] 27)
  obtain ⟨V, hV⟩ : ∃ V, w.alloc (.cells #[.slice LA ln lc, .int .i64 o.le, .int .i64 o.mo, .slice BA bn bc] 27) = V := ⟨_, rfl⟩
  have hA1 := hA.call B0
  rw [hV] at k1 B0 hA1
  have HB := Lib.hid hb'
  have HL := Lib.hid hl
  have HV := Lib.hid hV
  have HGG := Lib.hid hG
  clear hV hl hb' hA hG
  obtain ⟨l0, l1, l2, l3, lf', lz⟩ := k1.four
  go_enter Try.func40, Try.ntmps40
  go_upto_region 1 with fail
  rw [HV.out]
  go_wp2_with fail
  go_loopw [3, 4] (fun nv v wr => ∃ (i : Nat) (x : Int), v = .int .i64 i ∧ nv = .int .i64 x ∧ i ≤ bn ∧ wr = V) (fun _ v _ => bn - (intOf v).toNat)
  case atStart => exact ⟨0, 1, rfl, rfl, by omega, rfl⟩
  case round =>
    obtain ⟨i, x, rfl, rfl, hi, rfl⟩ := hrel
    by_cases hin : i < bn
    · by_cases hx : x < 1000
      · have d : decide (x < (1000 : Int)) = true := by simp; omega
        have hil : i < o.bs.length := by rw [HB.out]; exact hin
        have hiw : IntKind.i64.wrap ((i : Int) + 1) = (i : Int) + 1 := IntWalk.i64_in _ (by omega)
        obtain ⟨ba, G, gc, rfl, hba, -, -, -, p3, -⟩ := hA1.bs.at_ hil
        obtain ⟨gt, hgt⟩ : ∃ k, (o.bs[i]).g = k := ⟨_, rfl⟩
        rw [hgt] at p3
        clear hgt hx
        go_wp2_with fail
        go_roundw
        case rel => exact ⟨i + 1, _, by go_num, rfl, by omega, by trivial⟩
        case measure => simp [intOf]; omega
      · have d : decide (x < (1000 : Int)) = false := by simp; omega
        clear hx
        by_cases h350 : 350 < x
        · have d2 : decide ((350 : Int) < x) = true := by simp; omega
          clear h350
          go_wp2_with (first | (go_at_call 38; go_loud (refine (refCheck_any LA ln lc BA bn bc o _ (by omega) (by omega) HL.out HB.out hA1 HGG.out).mono ?_; rintro e w1 ⟨rfl, hq⟩)) | fail)
          go_ret
          exact ⟨⟨_, rfl⟩, B0.trans (hq.mono B0.size)⟩
        · have d2 : decide ((350 : Int) < x) = false := by simp; omega
          clear h350
          go_wp2_with fail
          go_ret
          exact ⟨⟨_, rfl⟩, B0⟩
    · have d : decide ((i : Int) < (bn : Int)) = false := by simp; omega
      by_cases h350 : 350 < x
      · have d2 : decide ((350 : Int) < x) = true := by simp; omega
        clear h350
        go_wp2_with (first | (go_at_call 38; go_loud (refine (refCheck_any LA ln lc BA bn bc o _ (by omega) (by omega) HL.out HB.out hA1 HGG.out).mono ?_; rintro e w1 ⟨rfl, hq⟩)) | fail)
        go_ret
        exact ⟨⟨_, rfl⟩, B0.trans (hq.mono B0.size)⟩
      · have d2 : decide ((350 : Int) < x) = false := by simp; omega
        clear h350
        go_wp2_with fail
        go_ret
        exact ⟨⟨_, rfl⟩, B0⟩
end Go.Proofs.Ytmemcopfeabcgaa
set_option linter.unusedSimpArgs false
set_option linter.unusedVariables false
namespace Go.Proofs.Ytmemcopfeabcgaa
open Go Go.RowKit
/-- One row of four cells out of three. -/
theorem three_rows {w : World} {q : Nat} {a b c : List Value} {cs : Array Value} (h : Bx w q 27 cs) (ha : a.length = 4) (hb : b.length = 4) (hc : c.length = 4) (e : cs = (a ++ b ++ c).toArray) : Sl w w.heap.size 4 (some ⟨q, 0, none⟩) [a, b, c] := by
  subst e
  match a, ha, b, hb, c, hc with
  | [a0, a1, a2, a3], _, [b0, b1, b2, b3], _, [c0, c1, c2, c3], _ =>
    refine Sl.of_bx h fun k r hr j u hu => ?_
    match k, hr with
    | 0, hr => (obtain rfl := Option.some.inj hr; match j, hu with | 0, hu => exact hu | 1, hu => exact hu | 2, hu => exact hu | 3, hu => exact hu | j + 4, hu => simp at hu)
    | 1, hr => (obtain rfl := Option.some.inj hr; match j, hu with | 0, hu => exact hu | 1, hu => exact hu | 2, hu => exact hu | 3, hu => exact hu | j + 4, hu => simp at hu)
    | 2, hr => (obtain rfl := Option.some.inj hr; match j, hu with | 0, hu => exact hu | 1, hu => exact hu | 2, hu => exact hu | 3, hu => exact hu | j + 4, hu => simp at hu)
    | k + 3, hr => simp at hr
theorem row_cells {w : World} {ad : Addr} {xs : List (List Value)} {i : Nat} {a b c d : Value} (h : Sl w w.heap.size 4 (some ad) xs) (hi : xs[i]? = some [a, b, c, d]) : ∀ x, Below w.heap.size w x → x.cell? (ad.add (i * 4)) = some a ∧ x.cell? ⟨(ad.add (i * 4)).block, (ad.add (i * 4)).off + 1, none⟩ = some b ∧ x.cell? ⟨(ad.add (i * 4)).block, (ad.add (i * 4)).off + 2, none⟩ = some c ∧ x.cell? ⟨(ad.add (i * 4)).block, (ad.add (i * 4)).off + 3, none⟩ = some d := fun x hx => by
  obtain ⟨ad', e1, -, e3⟩ := (h.call hx) i _ hi
  obtain rfl := Option.some.inj e1
  exact ⟨e3.head rfl, e3.next 0 rfl, e3.next 1 rfl, e3.next 2 rfl⟩
set_option maxRecDepth 100000 in
set_option maxHeartbeats 16000000 in
theorem meltCheapest_run (LA : Option Addr) (ln lc : Nat) (BA : Option Addr) (bn bc : Nat) (o : Od) (A : Option Addr) (m c : Nat) (L : List Int) (w : World) (hln : ln ≤ 9223372036854775807) (hbn : bn ≤ 9223372036854775807) (hl : o.lm.length = ln) (hb' : o.bs.length = bn) (hA0 : OrdAt w w.heap.size LA BA o) (hm : m ≤ 9000000000000000000) (hL : L.length = m) (hA : Sl w w.heap.size 1 A (ints L)) :
    Calls Try.prog 11 #[.agg #[.slice LA ln lc, .int .i64 o.le, .int .i64 o.mo, .slice BA bn bc], .slice A m c] w fun e w' => e = .returned (.bool true) ∧ Below w.heap.size w w' := by
  have HLN := Lib.hid hl
  have HBN := Lib.hid hb'
  have HL := Lib.hid hL
  have k1 := Bx.new w 27 #[.slice LA ln lc, .int .i64 o.le, .int .i64 o.mo, .slice BA bn bc]
  have B0 := (Below.refl w.heap.size w).alloc (Nat.le_refl _) (.cells #[.slice LA ln lc, .int .i64 o.le, .int .i64 o.mo, .slice BA bn bc] 27)
  obtain ⟨V, hV⟩ : ∃ V, w.alloc (.cells #[.slice LA ln lc, .int .i64 o.le, .int .i64 o.mo, .slice BA bn bc] 27) = V := ⟨_, rfl⟩
  have hO := hA0.call B0
  have hA1 : Sl V V.heap.size 1 A (ints L) := by rw [← hV]; exact hA.call B0
  rw [hV] at k1 B0 hO
  have HV := Lib.hid hV
  clear hV hl hb' hL hA0 hA
  obtain ⟨b0, hb0⟩ : ∃ b, w.heap.size = b := ⟨_, rfl⟩
  rw [hb0] at k1
  have HB0 := Lib.hid hb0
  clear hb0
  obtain ⟨l0, l1, l2, l3, lf', lz⟩ := k1.four
  go_enter Try.func11, Try.ntmps11
  go_upto_region 1 with fail
  rw [HV.out, HB0.out]
  have hhu := huge_any LA ln lc BA bn bc o V hln hbn HLN.out HBN.out hO
  go_upto_region 2 with (first
    | (go_at_call 33; refine hhu.mono ?_; rintro e w1 ⟨⟨hb, rfl, hsml⟩, hq1⟩; have k2 := k1.call hq1; have hO2 := hO.call hq1; have hA2 := hA1.call hq1; have B2 := B0.trans (hq1.mono B0.size); clear l0 l1 l2 l3 lf' lz; obtain ⟨l0, l1, l2, l3, lf', lz⟩ := k2.four; cases hb)
    | fail)
  rotate_left
  · go_wp2_with (first | (go_at_call 19; refine (alive_any _).mono ?_; rintro e V9 ⟨rfl, hq9⟩) | fail)
    go_ret
    exact ⟨rfl, B2.trans (hq9.mono B2.size)⟩
  obtain ⟨hln20, hbn20, hgr⟩ := hsml (by simp)
  have HGR := Lib.hid hgr
  have hb0l := k2.lt
  clear hsml hhu hO hA1 k1 B0 hq1 hgr hln hbn l0 l1 l2 l3 lf' lz
  refine (wide_any LA ln lc BA bn bc o _ hln20 hbn20 HLN.out HBN.out hO2 (fun b hb => by have := HGR.out b hb; omega)).mono ?_
  rintro e w2 ⟨⟨wd, rfl⟩, hq2⟩
  have k3 := k2.call hq2
  have hO3 := hO2.call hq2
  have hA3 := hA2.call hq2
  have B3 := B2.trans (hq2.mono B2.size)
  clear k2 hO2 hA2 B2 hq2
  cases wd
  rotate_left
  · go_wp2_with (first | (go_at_call 19; refine (alive_any _).mono ?_; rintro e V9 ⟨rfl, hq9⟩) | fail)
    go_ret
    exact ⟨rfl, B3.trans (hq9.mono B3.size)⟩
  go_upto_region 4 with (first
    | (go_at_call 13; refine (feedOf_any A m c L _ hm HL.out hA3).mono ?_; rintro e w3 ⟨⟨g, rfl, hg0, hfd⟩, hb3⟩)
    | fail)
  have k4 := k3.call hb3
  have hO4 := hO3.call hb3
  have B4 := B3.trans (hb3.mono B3.size)
  have hgb : b0 ≠ g := by have := k3.lt; omega
  have hwg : w.heap.size ≤ g := Nat.le_trans B3.size hg0
  clear k3 hO3 hA3 B3 hb3
  go_cut [6] (fun v6 wr => ∃ (a39 : Addr), v6 = .slice (some a39) 3 3 ∧ Hid (∀ i, i < 3 → ∃ (o9 : Od) (LA9 : Option Addr) (ln9 lc9 : Nat) (BA9 : Option Addr) (bn9 bc9 : Nat), (∀ x, Below wr.heap.size wr x → x.cell? (a39.add (i * 4)) = some (.slice LA9 ln9 lc9) ∧ x.cell? ⟨(a39.add (i * 4)).block, (a39.add (i * 4)).off + 1, none⟩ = some (.int .i64 o9.le) ∧ x.cell? ⟨(a39.add (i * 4)).block, (a39.add (i * 4)).off + 2, none⟩ = some (.int .i64 o9.mo) ∧ x.cell? ⟨(a39.add (i * 4)).block, (a39.add (i * 4)).off + 3, none⟩ = some (.slice BA9 bn9 bc9)) ∧ (o9.lm.length = ln9 ∧ o9.bs.length = bn9 ∧ ln9 ≤ 20 ∧ bn9 ≤ 20) ∧ (∀ b ∈ o9.bs, b.gr.length ≤ 20) ∧ OrdAt wr wr.heap.size LA9 BA9 o9) ∧ FT g w3 wr)
  case first =>
    go_wp2_with fail
    refine AnyG.startC (by kernel_rfl) ?_
    refine AnyG.takeP (i := 1) (v := ?_) rfl (by kernel_rfl) (fun _ _ _ h => h) rfl ?_ ?_
    rotate_left
    · (intro w'; go_simp; try with_reducible rfl)
    try simp only [Act.put, List.getElem_toArray, List.getElem_cons_succ, List.getElem_cons_zero, List.setIfInBounds_toArray, List.set_cons_zero, List.set_cons_succ]
    refine AnyG.takeP (i := 3) (v := ?_) rfl (by kernel_rfl) (fun _ _ _ h => h) rfl ?_ ?_
    rotate_left
    · (intro w'; go_simp; try with_reducible rfl)
    try simp only [Act.put, List.getElem_toArray, List.getElem_cons_succ, List.getElem_cons_zero, List.setIfInBounds_toArray, List.set_cons_zero, List.set_cons_succ]
    refine AnyG.enter (fun w' : World => FT g w3 w') (fun i => true) ?_
    have hS : (fun w' : World => FT g w3 w') (World.drew _) := (FT.self hfd).drew
    refine AnyG.takeC (i := 0) (v := ?_) rfl (by kernel_rfl) (fun _ _ _ h => h) rfl ?_ hS ?_
    rotate_left
    · (intro w' hSw; (try dsimp only at hSw); obtain ⟨l0, l1, l2, l3, lf2, lz⟩ := (hSw.bx k4 hgb).four; go_simp; try with_reducible rfl)
    try simp only [Act.put, List.getElem_toArray, List.getElem_cons_succ, List.getElem_cons_zero, List.setIfInBounds_toArray, List.set_cons_zero, List.set_cons_succ]
    refine AnyG.one (i := 2) (by kernel_rfl) rfl rfl ?_
    go_simp
    refine (orderOf6_any g 4 3 3 _ hS.2 (by omega) (by omega) (by omega) (by omega) (by omega) (by omega)).mono ?_
    rintro e2 y2 ⟨om, MA, NA, mc, nc, rfl, hsm2, hOm0, hfd5, hgr5⟩
    have HOM := Lib.hid (hsm2.ok (by omega) (by omega) (by omega))
    obtain ⟨ml, hml⟩ : ∃ k, om.lm.length = k := ⟨_, rfl⟩
    obtain ⟨mn, hmn⟩ : ∃ k, om.bs.length = k := ⟨_, rfl⟩
    rw [hml, hmn]
    have HML := Lib.hid hml
    have HMN := Lib.hid hmn
    clear hsm2 hml hmn
    refine Onward.on (hS.call hgr5 hfd5) (fun hS2 => ?_)
    clear hS
    have hS := hS2
    clear hS2
    try simp only [Act.put, List.getElem_toArray, List.getElem_cons_succ, List.getElem_cons_zero, List.setIfInBounds_toArray, List.set_cons_zero, List.set_cons_succ]
    refine AnyG.one (i := 4) (by kernel_rfl) rfl rfl ?_
    go_simp
    refine (orderOf6_any g 3 2 6 _ hS.2 (by omega) (by omega) (by omega) (by omega) (by omega) (by omega)).mono ?_
    rintro e4 y4 ⟨op, PA, QA, pc, qc, rfl, hsm4, hOp0, hfd6, hgr6⟩
    have HOP := Lib.hid (hsm4.ok (by omega) (by omega) (by omega))
    obtain ⟨pl, hpl⟩ : ∃ k, op.lm.length = k := ⟨_, rfl⟩
    obtain ⟨pn, hpn⟩ : ∃ k, op.bs.length = k := ⟨_, rfl⟩
    rw [hpl, hpn]
    have HPL := Lib.hid hpl
    have HPN := Lib.hid hpn
    clear hsm4 hpl hpn
    have hOm1 := FT.ord ⟨hgr6, hfd6⟩ hfd5 hOm0
    refine Onward.on (hS.call hgr6 hfd6) (fun hS2 => ?_)
    clear hS
    have hS := hS2
    clear hS2
    try simp only [Act.put, List.getElem_toArray, List.getElem_cons_succ, List.getElem_cons_zero, List.setIfInBounds_toArray, List.set_cons_zero, List.set_cons_succ]
    refine AnyG.one (i := 5) (by kernel_rfl) rfl rfl ?_
    go_simp
    have k39 := Bx.new y4 27 #[.slice LA ln lc, .int .i64 o.le, .int .i64 o.mo, .slice BA bn bc, .slice MA ml mc, .int .i64 om.le, .int .i64 om.mo, .slice NA mn nc, .slice PA pl pc, .int .i64 op.le, .int .i64 op.mo, .slice QA pn qc]
    have hT5 := hS.alloc (.cells #[.slice LA ln lc, .int .i64 o.le, .int .i64 o.mo, .slice BA bn bc, .slice MA ml mc, .int .i64 om.le, .int .i64 om.mo, .slice NA mn nc, .slice PA pl pc, .int .i64 op.le, .int .i64 op.mo, .slice QA pn qc] 27)
    have hOm2 := hOm1.call ((Below.refl _ _).alloc (Nat.le_refl _) (.cells #[.slice LA ln lc, .int .i64 o.le, .int .i64 o.mo, .slice BA bn bc, .slice MA ml mc, .int .i64 om.le, .int .i64 om.mo, .slice NA mn nc, .slice PA pl pc, .int .i64 op.le, .int .i64 op.mo, .slice QA pn qc] 27))
    have hOp2 := hOp0.call ((Below.refl _ _).alloc (Nat.le_refl _) (.cells #[.slice LA ln lc, .int .i64 o.le, .int .i64 o.mo, .slice BA bn bc, .slice MA ml mc, .int .i64 om.le, .int .i64 om.mo, .slice NA mn nc, .slice PA pl pc, .int .i64 op.le, .int .i64 op.mo, .slice QA pn qc] 27))
    obtain ⟨y5, hy⟩ : ∃ x, y4.alloc (.cells #[.slice LA ln lc, .int .i64 o.le, .int .i64 o.mo, .slice BA bn bc, .slice MA ml mc, .int .i64 om.le, .int .i64 om.mo, .slice NA mn nc, .slice PA pl pc, .int .i64 op.le, .int .i64 op.mo, .slice QA pn qc] 27) = x := ⟨_, rfl⟩
    rw [hy] at k39 hT5 hOm2 hOp2 ⊢
    obtain ⟨b39, hbq⟩ : ∃ p, y4.heap.size = p := ⟨_, rfl⟩
    rw [hbq] at k39 ⊢
    clear hy hbq
    refine Onward.on hT5 (fun hS2 => ?_)
    clear hS
    have hS := hS2
    clear hS2
    try simp only [Act.put, List.getElem_toArray, List.getElem_cons_succ, List.getElem_cons_zero, List.setIfInBounds_toArray, List.set_cons_zero, List.set_cons_succ]
    refine AnyG.takeC (i := 6) (v := ?_) rfl (by kernel_rfl) (fun _ _ _ h => h) rfl ?_ hS ?_
    rotate_left
    · (intro w' hSw; (try dsimp only at hSw); go_simp; try with_reducible rfl)
    try simp only [Act.put, List.getElem_toArray, List.getElem_cons_succ, List.getElem_cons_zero, List.setIfInBounds_toArray, List.set_cons_zero, List.set_cons_succ]
    refine AnyG.done (by kernel_rfl) ?_ _
    have hT := hS
    clear hS
    go_simp
    go_wp2_with fail
    go_meet
    have hO6 := FT.ord hT hfd hO4
    have r39 := three_rows k39 (a := [.slice LA ln lc, .int .i64 o.le, .int .i64 o.mo, .slice BA bn bc]) (b := [.slice MA ml mc, .int .i64 om.le, .int .i64 om.mo, .slice NA mn nc]) (c := [.slice PA pl pc, .int .i64 op.le, .int .i64 op.mo, .slice QA pn qc]) rfl rfl rfl rfl
    refine ⟨⟨b39, 0, none⟩, rfl, Lib.hid (fun i hi => ?_), hT⟩
    rcases (show i = 0 ∨ i = 1 ∨ i = 2 by omega) with rfl | rfl | rfl
    · exact ⟨o, LA, ln, lc, BA, bn, bc, row_cells r39 rfl, ⟨HLN.out, HBN.out, hln20, hbn20⟩, HGR.out, hO6⟩
    · exact ⟨om, MA, ml, mc, NA, mn, nc, row_cells r39 rfl, ⟨HML.out, HMN.out, by have := HOM.out.lm; rw [HML.out] at this; omega, by have := HOM.out.b2; rw [HMN.out] at this; omega⟩, (fun b hb => by have := (HOM.out.bs b hb).len; have := HOM.out.lm; omega), hOm2⟩
    · exact ⟨op, PA, pl, pc, QA, pn, qc, row_cells r39 rfl, ⟨HPL.out, HPN.out, by have := HOP.out.lm; rw [HPL.out] at this; omega, by have := HOP.out.b2; rw [HPN.out] at this; omega⟩, (fun b hb => by have := (HOP.out.bs b hb).len; have := HOP.out.lm; omega), hOp2⟩
  case rest =>
    obtain ⟨a39, rfl, HR, hT⟩ := hcut
    obtain ⟨W, hW⟩ : ∃ W, W = wc := ⟨_, rfl⟩
    subst hW
    have B6 := hT.be B4 hwg
    clear k4 hO4 B4 hT hfd
    go_wp2_with fail
    go_loopw [7, 8, 9, 10, 11, 12, 13, 14] (fun v _ _ _ _ _ _ _ wr => ∃ (i : Nat), v = .int .i64 i ∧ i ≤ 3 ∧ Below W.heap.size W wr) (fun v _ _ _ _ _ _ _ _ => 3 - (intOf v).toNat)
    case atStart => exact ⟨0, rfl, by omega, Below.refl _ _⟩
    case round =>
      obtain ⟨i, rfl, hi, hWr⟩ := hrel
      by_cases hi3 : i < 3
      · obtain ⟨o9, LA9, ln9, lc9, BA9, bn9, bc9, hq9, ⟨hl9, hb9, hln9, hbn9⟩, hg9, hO9⟩ := HR.out i hi3
        have HQ := Lib.hid hq9
        have HLN9 := Lib.hid hl9
        have HBN9 := Lib.hid hb9
        have HG209 := Lib.hid hg9
        have HG19 : Hid (∀ b ∈ o9.bs, b.gr.length ≤ 1000) := Lib.hid (fun b hb => by have := hg9 b hb; omega)
        have hi3' : (i : Int) < 3 := by omega
        have hiw : IntKind.i64.wrap ((i : Int) + 1) = (i : Int) + 1 := IntWalk.i64_in _ (by omega)
        clear hq9 hl9 hb9 hg9
        obtain ⟨q0, q1, q2, q3⟩ := HQ.out _ hWr
        go_upto_region 9 with (first
          | (go_at_call 31; refine (copyOrder_gen LA9 ln9 lc9 BA9 bn9 bc9 o9 _ HLN9.out HBN9.out (hO9.call hWr) (by omega) (by omega) HG209.out).mono ?_; rintro e w5 ⟨XA, xc, YA, yc, rs, rfl, ox, oy, bo, hq4⟩)
          | fail)
        have Bc := (Below.refl w5.heap.size w5).alloc (Nat.le_refl _) (.cells #[.slice XA ln9 xc, .int .i64 o9.le, .int .i64 o9.mo, .slice YA bn9 yc] 27)
        have kX := Bx.new w5 27 #[.slice XA ln9 xc, .int .i64 o9.le, .int .i64 o9.mo, .slice YA bn9 yc]
        have hX0 : OrdAt w5 w5.heap.size XA YA o9 := ⟨own_inr ox HLN9.out, bo.at_ oy HBN9.out⟩
        have hXO := hX0.call Bc
        have hX := hWr.trans ((hq4.trans (Bc.mono hq4.size)).mono hWr.size)
        obtain ⟨X0, hY⟩ : ∃ x, w5.alloc (.cells #[.slice XA ln9 xc, .int .i64 o9.le, .int .i64 o9.mo, .slice YA bn9 yc] 27) = x := ⟨_, rfl⟩
        rw [hY] at kX hXO hX ⊢
        obtain ⟨b12, hb12⟩ : ∃ p, w5.heap.size = p := ⟨_, rfl⟩
        rw [hb12] at kX ⊢
        clear hY hb12 Bc hX0 ox oy bo hq4 q0 q1 q2 q3 rs
        obtain ⟨t0, t1, t2, t3, tf, tz⟩ := kX.four
        go_upto_region 10 with (first
          | (go_at_call 20; refine (cheap20_any XA ln9 xc YA bn9 yc o9 _ (by omega) (by omega) HLN9.out HBN9.out hXO HG19.out).mono ?_; rintro e u1 ⟨⟨A1, n1, c1, L1, cc, ee, rfl, hans, hL1, hn1, hS1⟩, hz1⟩)
          | fail)
        have HANS := Lib.hid hans
        have HL1 := Lib.hid hL1
        clear hans hL1 t0 t1 t2 t3 tf tz
        obtain ⟨q0, q1, q2, q3⟩ := HQ.out _ (hX.trans (hz1.mono hX.size))
        go_upto_region 11 with (first
          | (go_at_call 41; refine (cheap41_any LA9 ln9 lc9 BA9 bn9 bc9 o9 _ (by omega) (by omega) HLN9.out HBN9.out (hO9.call (hX.trans (hz1.mono hX.size))) HG19.out L1 n1 cc ee HANS.out HL1.out).mono ?_; rintro e u2 ⟨⟨A2, c2, rfl, hS2⟩, hz2⟩)
          | fail)
        have hz : Below X0.heap.size X0 u2 := hz1.trans (hz2.mono hz1.size)
        have hS3 := hS1.call hz2
        obtain ⟨U, hU⟩ : ∃ U, U = u2 := ⟨_, rfl⟩
        subst hU
        clear q0 q1 q2 q3 hz1 hz2 hS1
        go_wp2_with fail
        refine AnyG.startC (by kernel_rfl) ?_
        refine AnyG.takeP (i := 0) (v := ?_) rfl (by kernel_rfl) (fun _ _ _ h => h) rfl ?_ ?_
        rotate_left
        · (intro w'; go_simp; try with_reducible rfl)
        try simp only [Act.put, List.getElem_toArray, List.getElem_cons_succ, List.getElem_cons_zero, List.setIfInBounds_toArray, List.set_cons_zero, List.set_cons_succ]
        refine AnyG.takeP (i := 1) (v := ?_) rfl (by kernel_rfl) (fun _ _ _ h => h) rfl ?_ ?_
        rotate_left
        · (intro w'; go_simp; try with_reducible rfl)
        try simp only [Act.put, List.getElem_toArray, List.getElem_cons_succ, List.getElem_cons_zero, List.setIfInBounds_toArray, List.set_cons_zero, List.set_cons_succ]
        refine AnyG.takeP (i := 2) (v := ?_) rfl (by kernel_rfl) (fun _ _ _ h => h) rfl ?_ ?_
        rotate_left
        · (intro w'; go_simp; try with_reducible rfl)
        try simp only [Act.put, List.getElem_toArray, List.getElem_cons_succ, List.getElem_cons_zero, List.setIfInBounds_toArray, List.set_cons_zero, List.set_cons_succ]
        refine AnyG.takeP (i := 3) (v := ?_) rfl (by kernel_rfl) (fun _ _ _ h => h) rfl ?_ ?_
        rotate_left
        · (intro w'; go_simp; try with_reducible rfl)
        try simp only [Act.put, List.getElem_toArray, List.getElem_cons_succ, List.getElem_cons_zero, List.setIfInBounds_toArray, List.set_cons_zero, List.set_cons_succ]
        refine AnyG.enter (fun w' : World => Below U.heap.size U w') (fun i => true) ?_
        have hS : (fun w' : World => Below U.heap.size U w') (World.drew _) := (Below.refl _ _).drew
        refine AnyG.takeGC (i := 4) (v := ?_) rfl (by kernel_rfl) (fun _ _ _ h => h) (by first | (simp [Region.wanted, yielded]; done) | simp [Region.wanted, yielded, undef]) ?_ hS ?_
        rotate_left
        · (intro w' hSw; (try dsimp only at hSw); go_simp; try with_reducible rfl)
        try simp only [Act.put, List.getElem_toArray, List.getElem_cons_succ, List.getElem_cons_zero, List.setIfInBounds_toArray, List.set_cons_zero, List.set_cons_succ]
        refine AnyG.takeGC (i := 5) (v := ?_) rfl (by kernel_rfl) (fun _ _ _ h => h) (by first | (simp [Region.wanted, yielded]; done) | simp [Region.wanted, yielded, undef]) ?_ hS ?_
        rotate_left
        · (intro w' hSw; (try dsimp only at hSw); go_simp; try with_reducible rfl)
        try simp only [Act.put, List.getElem_toArray, List.getElem_cons_succ, List.getElem_cons_zero, List.setIfInBounds_toArray, List.set_cons_zero, List.set_cons_succ]
        refine AnyG.takeGC (i := 6) (v := ?_) rfl (by kernel_rfl) (fun _ _ _ h => h) (by first | (simp [Region.wanted, yielded]; done) | simp [Region.wanted, yielded, undef]) ?_ hS ?_
        rotate_left
        · (intro w' hSw; (try dsimp only at hSw); go_simp; try with_reducible rfl)
        try simp only [Act.put, List.getElem_toArray, List.getElem_cons_succ, List.getElem_cons_zero, List.setIfInBounds_toArray, List.set_cons_zero, List.set_cons_succ]
        refine AnyG.takeC (i := 7) (v := ?_) rfl (by kernel_rfl) (fun _ _ _ h => h) rfl ?_ hS ?_
        rotate_left
        · (intro w' hSw; (try dsimp only at hSw); go_simp; try with_reducible rfl)
        try simp only [Act.put, List.getElem_toArray, List.getElem_cons_succ, List.getElem_cons_zero, List.setIfInBounds_toArray, List.set_cons_zero, List.set_cons_succ]
        refine AnyG.takeC (i := 8) (v := ?_) rfl (by kernel_rfl) (fun _ _ _ h => h) rfl ?_ hS ?_
        rotate_left
        · (intro w' hSw; (try dsimp only at hSw); go_simp; try with_reducible rfl)
        try simp only [Act.put, List.getElem_toArray, List.getElem_cons_succ, List.getElem_cons_zero, List.setIfInBounds_toArray, List.set_cons_zero, List.set_cons_succ]
        refine AnyG.takeGC (i := 9) (v := ?_) rfl (by kernel_rfl) (fun _ _ _ h => h) (by first | (simp [Region.wanted, yielded]; done) | simp [Region.wanted, yielded, undef]) ?_ hS ?_
        rotate_left
        · (intro w' hSw; (try dsimp only at hSw); go_simp; try with_reducible rfl)
        try simp only [Act.put, List.getElem_toArray, List.getElem_cons_succ, List.getElem_cons_zero, List.setIfInBounds_toArray, List.set_cons_zero, List.set_cons_succ]
        refine AnyG.takeGC (i := 10) (v := ?_) rfl (by kernel_rfl) (fun _ _ _ h => h) (by first | (simp [Region.wanted, yielded]; done) | simp [Region.wanted, yielded, undef]) ?_ hS ?_
        rotate_left
        · (intro w' hSw; (try dsimp only at hSw); go_simp; try with_reducible rfl)
        try simp only [Act.put, List.getElem_toArray, List.getElem_cons_succ, List.getElem_cons_zero, List.setIfInBounds_toArray, List.set_cons_zero, List.set_cons_succ]
        refine AnyG.oneC (i := 11) (by kernel_rfl) rfl (by first | (simp [Region.wanted, yielded]; done) | simp [Region.wanted, yielded, undef]) ?_
        go_simp
        refine (equalInts_any A1 n1 c1 A2 n1 c2 L1 L1 _ (by omega) (by omega) HL1.out HL1.out (hS3.call hS) (hS2.call hS)).mono ?_
        rintro e11 y11 ⟨rfl, hb11⟩
        rw [show decide (L1 = L1) = true by simp]
        refine Onward.on (hS.trans (hb11.mono hS.size)) (fun hS2 => ?_)
        clear hS
        have hS := hS2
        clear hS2
        try simp only [Act.put, List.getElem_toArray, List.getElem_cons_succ, List.getElem_cons_zero, List.setIfInBounds_toArray, List.set_cons_zero, List.set_cons_succ]
        refine AnyG.takeGC (i := 12) (v := ?_) rfl (by kernel_rfl) (fun _ _ _ h => h) (by first | (simp [Region.wanted, yielded]; done) | simp [Region.wanted, yielded, undef]) ?_ hS ?_
        rotate_left
        · (intro w' hSw; (try dsimp only at hSw); go_simp; try with_reducible rfl)
        try simp only [Act.put, List.getElem_toArray, List.getElem_cons_succ, List.getElem_cons_zero, List.setIfInBounds_toArray, List.set_cons_zero, List.set_cons_succ]
        refine AnyG.takeC (i := 13) (v := ?_) rfl (by kernel_rfl) (fun _ _ _ h => h) rfl ?_ hS ?_
        rotate_left
        · (intro w' hSw; (try dsimp only at hSw); go_simp; try with_reducible rfl)
        try simp only [Act.put, List.getElem_toArray, List.getElem_cons_succ, List.getElem_cons_zero, List.setIfInBounds_toArray, List.set_cons_zero, List.set_cons_succ]
        refine AnyG.takeC (i := 14) (v := ?_) rfl (by kernel_rfl) (fun _ _ _ h => h) rfl ?_ hS ?_
        rotate_left
        · (intro w' hSw; (try dsimp only at hSw); go_simp; try with_reducible rfl)
        try simp only [Act.put, List.getElem_toArray, List.getElem_cons_succ, List.getElem_cons_zero, List.setIfInBounds_toArray, List.set_cons_zero, List.set_cons_succ]
        refine AnyG.takeGC (i := 15) (v := ?_) rfl (by kernel_rfl) (fun _ _ _ h => h) (by first | (simp [Region.wanted, yielded]; done) | simp [Region.wanted, yielded, undef]) ?_ hS ?_
        rotate_left
        · (intro w' hSw; (try dsimp only at hSw); obtain ⟨t0, t1, t2, t3, tf, tz⟩ := ((kX.call hz).call hSw).four; go_simp; try with_reducible rfl)
        try simp only [Act.put, List.getElem_toArray, List.getElem_cons_succ, List.getElem_cons_zero, List.setIfInBounds_toArray, List.set_cons_zero, List.set_cons_succ]
        refine AnyG.takeGC (i := 16) (v := ?_) rfl (by kernel_rfl) (fun _ _ _ h => h) (by first | (simp [Region.wanted, yielded]; done) | simp [Region.wanted, yielded, undef]) ?_ hS ?_
        rotate_left
        · (intro w' hSw; (try dsimp only at hSw); go_simp; try with_reducible rfl)
        try simp only [Act.put, List.getElem_toArray, List.getElem_cons_succ, List.getElem_cons_zero, List.setIfInBounds_toArray, List.set_cons_zero, List.set_cons_succ]
        refine AnyG.takeGC (i := 17) (v := ?_) rfl (by kernel_rfl) (fun _ _ _ h => h) (by first | (simp [Region.wanted, yielded]; done) | simp [Region.wanted, yielded, undef]) ?_ hS ?_
        rotate_left
        · (intro w' hSw; (try dsimp only at hSw); go_simp; try with_reducible rfl)
        try simp only [Act.put, List.getElem_toArray, List.getElem_cons_succ, List.getElem_cons_zero, List.setIfInBounds_toArray, List.set_cons_zero, List.set_cons_succ]
        refine AnyG.takeGC (i := 18) (v := ?_) rfl (by kernel_rfl) (fun _ _ _ h => h) (by first | (simp [Region.wanted, yielded]; done) | simp [Region.wanted, yielded, undef]) ?_ hS ?_
        rotate_left
        · (intro w' hSw; (try dsimp only at hSw); go_simp; try with_reducible rfl)
        try simp only [Act.put, List.getElem_toArray, List.getElem_cons_succ, List.getElem_cons_zero, List.setIfInBounds_toArray, List.set_cons_zero, List.set_cons_succ]
        refine AnyG.takeGC (i := 19) (v := ?_) rfl (by kernel_rfl) (fun _ _ _ h => h) (by first | (simp [Region.wanted, yielded]; done) | simp [Region.wanted, yielded, undef]) ?_ hS ?_
        rotate_left
        · (intro w' hSw; (try dsimp only at hSw); obtain ⟨q0, q1, q2, q3⟩ := HQ.out _ ((hX.trans (hz.mono hX.size)).trans (hSw.mono (hX.trans (hz.mono hX.size)).size)); go_simp; try with_reducible rfl)
        try simp only [Act.put, List.getElem_toArray, List.getElem_cons_succ, List.getElem_cons_zero, List.setIfInBounds_toArray, List.set_cons_zero, List.set_cons_succ]
        refine AnyG.oneC (i := 20) (by kernel_rfl) rfl (by first | (simp [Region.wanted, yielded]; done) | simp [Region.wanted, yielded, undef]) ?_
        go_simp
        refine (equalOrders_same XA ln9 xc YA bn9 yc LA9 lc9 BA9 bc9 o9 _ (by omega) (by omega) HLN9.out HBN9.out ((hXO.call hz).call hS) (hO9.call ((hX.trans (hz.mono hX.size)).trans (hS.mono (hX.trans (hz.mono hX.size)).size))) HG19.out).mono ?_
        rintro e20 y20 ⟨rfl, hb20⟩
        refine Onward.on (hS.trans (hb20.mono hS.size)) (fun hS2 => ?_)
        clear hS
        have hS := hS2
        clear hS2
        try simp only [Act.put, List.getElem_toArray, List.getElem_cons_succ, List.getElem_cons_zero, List.setIfInBounds_toArray, List.set_cons_zero, List.set_cons_succ]
        refine AnyG.takeGC (i := 21) (v := ?_) rfl (by kernel_rfl) (fun _ _ _ h => h) (by first | (simp [Region.wanted, yielded]; done) | simp [Region.wanted, yielded, undef]) ?_ hS ?_
        rotate_left
        · (intro w' hSw; (try dsimp only at hSw); go_simp; try with_reducible rfl)
        try simp only [Act.put, List.getElem_toArray, List.getElem_cons_succ, List.getElem_cons_zero, List.setIfInBounds_toArray, List.set_cons_zero, List.set_cons_succ]
        refine AnyG.takeC (i := 22) (v := ?_) rfl (by kernel_rfl) (fun _ _ _ h => h) rfl ?_ hS ?_
        rotate_left
        · (intro w' hSw; (try dsimp only at hSw); go_simp; try with_reducible rfl)
        try simp only [Act.put, List.getElem_toArray, List.getElem_cons_succ, List.getElem_cons_zero, List.setIfInBounds_toArray, List.set_cons_zero, List.set_cons_succ]
        refine AnyG.done (by kernel_rfl) ?_ _
        have hE := hS
        clear hS
        go_simp
        go_wp2_with fail
        go_roundw
        case rel => exact ⟨i + 1, by go_num, by omega, (hX.trans (hz.mono hX.size)).trans (hE.mono (hX.trans (hz.mono hX.size)).size)⟩
        case measure => simp [intOf]; omega
      · obtain rfl : i = 3 := by omega
        go_wp2_with (first | (go_at_call 19; refine (alive_any _).mono ?_; rintro e V9 ⟨rfl, hq9⟩) | fail)
        go_ret
        have h9 := hWr.trans (hq9.mono hWr.size)
        exact ⟨rfl, B6.trans (h9.mono B6.size)⟩
end Go.Proofs.Ytmemcopfeabcgaa
