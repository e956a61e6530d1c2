/- MeltBlends. -/
import Derived.Test.YtmemcopfeabcgaaRd
import Derived.Test.YtmemcopfeabcgaaEo
import Derived.Test.YtmemcopfeabcgaaHu
import Derived.Test.YtmemcopfeabcgaaO6
import Derived.Deep.DeepCutAuto
set_option linter.unusedSimpArgs false
set_option linter.unusedVariables false
namespace Go.Proofs.Ytmemcopfeabcgaa
open Go Go.RowKit
/-- What Weigh and Keeps give, for good lists and bad ones. -/
def wk (o : Od) (BL : List Int) : Int := if ckBl o BL ≠ 0 then 0 else kil o (lf BL) o.bs.length
def wc (o : Od) (BL : List Int) : Int := if ckBl o BL ≠ 0 then 0 else cst o (lf BL) o.bs.length
def kk (o : Od) (BL : List Int) : Int := if ckBl o BL ≠ 0 then 0 else kv o (lf BL)
section
variable (LA : Option Addr) (ln lc : Nat) (BA : Option Addr) (bn bc : Nat) (o : Od) (SA : Option Addr) (n sc : Nat) (BL : List Int) (w : World)
theorem weigh_all (hln : ln ≤ 1000) (hbn : bn ≤ 1000) (hn : n ≤ 1000) (hl : o.lm.length = ln) (hb' : o.bs.length = bn) (hA : OrdAt w w.heap.size LA BA o) (hG : ∀ b ∈ o.bs, b.gr.length ≤ 1000) (hL : BL.length = n) (hS : Sl w w.heap.size 1 SA (inr BL)) :
    Calls Try.prog 22 #[.agg #[.slice LA ln lc, .int .i64 o.le, .int .i64 o.mo, .slice BA bn bc], .slice SA n sc] w fun e w' => e = .returned (.tuple #[.int .i64 (wk o BL), .int .i64 (wc o BL), .int .i64 (ckBl o BL)]) ∧ Below w.heap.size w w' := by
  unfold wk wc
  by_cases hz : ckBl o BL = 0
  · rw [if_neg (by simp [hz]), if_neg (by simp [hz]), hz, hb']
    exact weigh_ok LA ln lc BA bn bc o SA n sc BL w (by omega) (by omega) hl hb' hA (by omega) hL hS hz
  · rw [if_pos hz, if_pos hz]
    exact weigh_bad LA ln lc BA bn bc o SA n sc BL w (by omega) (by omega) hl hb' hA (fun b hb => by have := hG b hb; omega) (by omega) hL hS hz
theorem refWeigh_all (hln : ln ≤ 1000) (hbn : bn ≤ 1000) (hn : n ≤ 1000) (hl : o.lm.length = ln) (hb' : o.bs.length = bn) (hA : OrdAt w w.heap.size LA BA o) (hG : ∀ b ∈ o.bs, b.gr.length ≤ 1000) (hL : BL.length = n) (hS : Sl w w.heap.size 1 SA (inr BL)) :
    Calls Try.prog 35 #[.agg #[.slice LA ln lc, .int .i64 o.le, .int .i64 o.mo, .slice BA bn bc], .slice SA n sc] w fun e w' => e = .returned (.tuple #[.int .i64 (wk o BL), .int .i64 (wc o BL), .int .i64 (ckBl o BL)]) ∧ Below w.heap.size w w' := by
  refine (refWeigh_any LA ln lc BA bn bc o SA n sc BL w hln hbn hn hl hb' hA hG hL hS).mono ?_
  rintro e w' ⟨rfl, hb⟩
  refine ⟨?_, hb⟩
  unfold wk wc
  by_cases hz : ckBl o BL = 0
  · rw [if_neg (by simp [hz]), if_neg (by simp [hz]), if_neg (by simp [hz]), hz, hb']
  · rw [if_pos hz, if_pos hz, if_pos hz]
theorem keeps_all (hln : ln ≤ 1000) (hbn : bn ≤ 1000) (hn : n ≤ 1000) (hl : o.lm.length = ln) (hb' : o.bs.length = bn) (hA : OrdAt w w.heap.size LA BA o) (hG : ∀ b ∈ o.bs, b.gr.length ≤ 1000) (hL : BL.length = n) (hS : Sl w w.heap.size 1 SA (inr BL)) :
    Calls Try.prog 16 #[.agg #[.slice LA ln lc, .int .i64 o.le, .int .i64 o.mo, .slice BA bn bc], .slice SA n sc] w fun e w' => e = .returned (.tuple #[.int .i64 (kk o BL), .int .i64 (ckBl o BL)]) ∧ Below w.heap.size w w' := by
  unfold kk
  by_cases hz : ckBl o BL = 0
  · rw [if_neg (by simp [hz]), hz]
    exact keeps_ok LA ln lc BA bn bc o SA n sc BL w (by omega) (by omega) hl hb' hA (by omega) hL hS hz
  · rw [if_pos hz]
    exact keeps_bad LA ln lc BA bn bc o SA n sc BL w (by omega) (by omega) hl hb' hA (fun b hb => by have := hG b hb; omega) (by omega) hL hS hz
theorem refKeeps_all (hln : ln ≤ 1000) (hbn : bn ≤ 1000) (hn : n ≤ 1000) (hl : o.lm.length = ln) (hb' : o.bs.length = bn) (hA : OrdAt w w.heap.size LA BA o) (hG : ∀ b ∈ o.bs, b.gr.length ≤ 1000) (hL : BL.length = n) (hS : Sl w w.heap.size 1 SA (inr BL)) :
    Calls Try.prog 36 #[.agg #[.slice LA ln lc, .int .i64 o.le, .int .i64 o.mo, .slice BA bn bc], .slice SA n sc] w fun e w' => e = .returned (.tuple #[.int .i64 (kk o BL), .int .i64 (ckBl o BL)]) ∧ Below w.heap.size w w' := by
  refine (refKeeps_any LA ln lc BA bn bc o SA n sc BL w hln hbn hn hl hb' hA hG hL hS).mono ?_
  rintro e w' ⟨rfl, hb⟩
  refine ⟨?_, hb⟩
  unfold kk
  by_cases hz : ckBl o BL = 0
  · rw [if_neg (by simp [hz]), if_neg (by simp [hz]), hz]
  · rw [if_pos hz, if_pos hz]
end
theorem BinsOwn.up {w : World} {b b' : Nat} {rs : List (List Value)} {bs : List Bn} (h : BinsOwn w b rs bs) (hb : b' ≤ b) : BinsOwn w b' rs bs :=
  ⟨h.len, fun j r x h1 h2 => by obtain ⟨A, c, e, o⟩ := h.row j r x h1 h2; exact ⟨A, c, e, ownsRow_up o (fun q hq => Nat.le_trans hb (o.lt q hq).1)⟩⟩
/-- A copied order whose box is filled. -/
structure CopyAt (V : World) (q : Nat) (XA : Option Addr) (ln xc : Nat) (YA : Option Addr) (bn yc : Nat) (o : Od) (x : World) : Prop where
  k : Bx x q 27 #[.slice XA ln xc, .int .i64 o.le, .int .i64 o.mo, .slice YA bn yc]
  at_ : OrdAt x x.heap.size XA YA o
theorem copy_put {w : World} {q B : Nat} {a0 a1 a2 a3 : Value} {XA : Option Addr} {ln xc : Nat} {YA : Option Addr} {bn yc : Nat} {o : Od} {rs : List (List Value)} (k : Bx w q 27 #[a0, a1, a2, a3]) (ox : w.ownsRow B 3 1 (.slice XA ln xc) ln (inr o.lm).flatten) (oy : w.ownsRow B 42 4 (.slice YA bn yc) bn rs.flatten) (bo : BinsOwn w B rs o.bs) (hl : o.lm.length = ln) (hb : o.bs.length = bn) :
    OrdAt ((((w.setCell ⟨q, 0, none⟩ (.slice XA ln xc)).setCell ⟨q, 1, none⟩ (.int .i64 o.le)).setCell ⟨q, 2, none⟩ (.int .i64 o.mo)).setCell ⟨q, 3, none⟩ (.slice YA bn yc)) ((((w.setCell ⟨q, 0, none⟩ (.slice XA ln xc)).setCell ⟨q, 1, none⟩ (.int .i64 o.le)).setCell ⟨q, 2, none⟩ (.int .i64 o.mo)).setCell ⟨q, 3, none⟩ (.slice YA bn yc)).heap.size XA YA o := by
  have s1 := k.set_ 0 (.slice XA ln xc)
  have s2 := s1.set_ 1 (.int .i64 o.le)
  have s3 := s2.set_ 2 (.int .i64 o.mo)
  have ox4 := own_set (own_set (own_set (own_set ox (own_bx ox k (by decide)) (o := 0) (.slice XA ln xc)) (own_bx (own_set ox (own_bx ox k (by decide)) (o := 0) (.slice XA ln xc)) s1 (by decide)) (o := 1) (.int .i64 o.le)) (own_bx (own_set (own_set ox (own_bx ox k (by decide)) (o := 0) (.slice XA ln xc)) (own_bx (own_set ox (own_bx ox k (by decide)) (o := 0) (.slice XA ln xc)) s1 (by decide)) (o := 1) (.int .i64 o.le)) s2 (by decide)) (o := 2) (.int .i64 o.mo)) (own_bx (own_set (own_set (own_set ox (own_bx ox k (by decide)) (o := 0) (.slice XA ln xc)) (own_bx (own_set ox (own_bx ox k (by decide)) (o := 0) (.slice XA ln xc)) s1 (by decide)) (o := 1) (.int .i64 o.le)) (own_bx (own_set (own_set ox (own_bx ox k (by decide)) (o := 0) (.slice XA ln xc)) (own_bx (own_set ox (own_bx ox k (by decide)) (o := 0) (.slice XA ln xc)) s1 (by decide)) (o := 1) (.int .i64 o.le)) s2 (by decide)) (o := 2) (.int .i64 o.mo)) s3 (by decide)) (o := 3) (.slice YA bn yc)
  have o1 := own_set oy (own_bx oy k (by decide)) (o := 0) (.slice XA ln xc)
  have o2 := own_set o1 (own_bx o1 s1 (by decide)) (o := 1) (.int .i64 o.le)
  have o3 := own_set o2 (own_bx o2 s2 (by decide)) (o := 2) (.int .i64 o.mo)
  have oy4 := own_set o3 (own_bx o3 s3 (by decide)) (o := 3) (.slice YA bn yc)
  have bo4 := (((bo.set_ k (by decide) 0 (.slice XA ln xc)).set_ s1 (by decide) 1 (.int .i64 o.le)).set_ s2 (by decide) 2 (.int .i64 o.mo)).set_ s3 (by decide) 3 (.slice YA bn yc)
  exact ⟨own_inr ox4 hl, bo4.at_ oy4 hb⟩
theorem ints_put {w : World} {q B : Nat} {a0 a1 a2 a3 : Value} {IA : Option Addr} {n ic : Nat} {L : List Int} (k : Bx w q 27 #[a0, a1, a2, a3]) (oi : w.ownsRow B 3 1 (.slice IA n ic) n (inr L).flatten) (hl : L.length = n) (v0 v1 v2 v3 : Value) :
    Sl ((((w.setCell ⟨q, 0, none⟩ v0).setCell ⟨q, 1, none⟩ v1).setCell ⟨q, 2, none⟩ v2).setCell ⟨q, 3, none⟩ v3) ((((w.setCell ⟨q, 0, none⟩ v0).setCell ⟨q, 1, none⟩ v1).setCell ⟨q, 2, none⟩ v2).setCell ⟨q, 3, none⟩ v3).heap.size 1 IA (inr L) := by
  have s1 := k.set_ 0 v0
  have s2 := s1.set_ 1 v1
  have s3 := s2.set_ 2 v2
  have o1 := own_set oi (own_bx oi k (by decide)) (o := 0) v0
  have o2 := own_set o1 (own_bx o1 s1 (by decide)) (o := 1) v1
  have o3 := own_set o2 (own_bx o2 s2 (by decide)) (o := 2) v2
  exact own_inr (own_set o3 (own_bx o3 s3 (by decide)) (o := 3) v3) hl
set_option maxRecDepth 100000 in
set_option maxHeartbeats 16000000 in
theorem meltBlends_run (LA : Option Addr) (ln lc : Nat) (BA : Option Addr) (bn bc : Nat) (o : Od) (SA : Option Addr) (n sc : Nat) (BL : List Int) (A : Option Addr) (m c : Nat) (L : List Int) (w : World) (hln : ln ≤ 9223372036854775807) (hbn : bn ≤ 9223372036854775807) (hl : o.lm.length = ln) (hb' : o.bs.length = bn) (hA0 : OrdAt w w.heap.size LA BA o) (hBL : BL.length = n) (hSB : Sl w w.heap.size 1 SA (inr BL)) (hn : n ≤ 9223372036854775807) (hm : m ≤ 9000000000000000000) (hL : L.length = m) (hA : Sl w w.heap.size 1 A (ints L)) :
    Calls Try.prog 10 #[.agg #[.slice LA ln lc, .int .i64 o.le, .int .i64 o.mo, .slice BA bn bc], .slice SA n sc, .slice A m c] w fun e w' => e = .returned (.bool true) ∧ Below w.heap.size w w' := by
  have HLN := Lib.hid hl
  have HBN := Lib.hid hb'
  have HBL := Lib.hid hBL
  have HL := Lib.hid hL
  have k1 := Bx.new w 27 #[.slice LA ln lc, .int .i64 o.le, .int .i64 o.mo, .slice BA bn bc]
  have B0 := (Below.refl w.heap.size w).alloc (Nat.le_refl _) (.cells #[.slice LA ln lc, .int .i64 o.le, .int .i64 o.mo, .slice BA bn bc] 27)
  obtain ⟨V, hV⟩ : ∃ V, w.alloc (.cells #[.slice LA ln lc, .int .i64 o.le, .int .i64 o.mo, .slice BA bn bc] 27) = V := ⟨_, rfl⟩
  have hO := hA0.call B0
  have hSB1 := hSB.call B0
  have hA1 : Sl V V.heap.size 1 A (ints L) := by rw [← hV]; exact hA.call B0
  rw [hV] at k1 B0 hO hSB1
  have HV := Lib.hid hV
  clear hV hl hb' hBL hL hA0 hSB hA
  obtain ⟨b0, hb0⟩ : ∃ b, w.heap.size = b := ⟨_, rfl⟩
  rw [hb0] at k1
  have HB0 := Lib.hid hb0
  clear hb0
  obtain ⟨l0, l1, l2, l3, lf', lz⟩ := k1.four
  go_enter Try.func10, Try.ntmps10
  go_upto_region 1 with fail
  rw [HV.out, HB0.out]
  have hhu := huge_any LA ln lc BA bn bc o V hln hbn HLN.out HBN.out hO
  by_cases hn20 : 20 < n
  · have d : decide ((20 : Int) < (n : Int)) = true := by simp; omega
    clear hn20
    go_upto_region 2 with (first | (go_at_call 33; refine hhu.mono ?_; rintro e w1 ⟨⟨hb, rfl, _⟩, hq1⟩) | fail)
    all_goals
      go_wp2_with (first | (go_at_call 19; refine (alive_any _).mono ?_; rintro e V9 ⟨rfl, hq9⟩) | fail)
      go_ret
      exact ⟨rfl, B0.trans ((hq1.trans (hq9.mono hq1.size)).mono B0.size)⟩
  · have d : decide ((20 : Int) < (n : Int)) = false := by simp; omega
    have hn20' : n ≤ 20 := by omega
    clear hn20
    go_upto_region 2 with (first | (go_at_call 33; refine hhu.mono ?_; rintro e w1 ⟨⟨hb, rfl, hsml⟩, hq1⟩) | fail)
    · go_wp2_with (first | (go_at_call 19; refine (alive_any _).mono ?_; rintro e V9 ⟨rfl, hq9⟩) | fail)
      go_ret
      exact ⟨rfl, B0.trans ((hq1.trans (hq9.mono hq1.size)).mono B0.size)⟩
    · have hnb : ¬ hb = true := by assumption
      obtain ⟨hln20, hbn20, hgr⟩ := hsml (by simpa using hnb)
      clear hnb
      have hgr1 : ∀ b ∈ o.bs, b.gr.length ≤ 1000 := fun b hb => by have := hgr b hb; omega
      have HGR := Lib.hid hgr
      have HGR1 := Lib.hid hgr1
      have k2 := k1.call hq1
      have hO2 := hO.call hq1
      have hSB2 := hSB1.call hq1
      have hA2 := hA1.call hq1
      have B2 := B0.trans (hq1.mono B0.size)
      have hb0l := k2.lt
      clear l0 l1 l2 l3 lf' lz k1 hO hSB1 hA1 B0 hq1 hsml hhu hgr hgr1 hln hbn hn d
      refine (feedOf_any A m c L _ hm HL.out hA2).mono ?_
      rintro e w3 ⟨⟨g, rfl, hg0, hfd⟩, hb3⟩
      go_upto_region 4 with fail
      have k3 := k2.call hb3
      have hO3 := hO2.call hb3
      have hSB3 := hSB2.call hb3
      have B3 := B2.trans (hb3.mono B2.size)
      have hgb : b0 ≠ g := by omega
      have hwg : w.heap.size ≤ g := Nat.le_trans B2.size hg0
      clear k2 hO2 hSB2 hA2 B2 hb3
      go_upto_region 5 with (first | (go_at_call 14; refine (orderOf6_any g 4 3 6 _ hfd (by omega) (by omega) (by omega) (by omega) (by omega) (by omega)).mono ?_; rintro e w4 ⟨om, MA, NA, mc, nc, rfl, hsm, hOm0, hfd4, hgr4⟩) | fail)
      have HOM := Lib.hid (hsm.ok (by omega) (by omega) (by omega))
      obtain ⟨ml, hml⟩ : ∃ k, om.lm.length = k := ⟨_, rfl⟩
      obtain ⟨mn, hmn⟩ : ∃ k, om.bs.length = k := ⟨_, rfl⟩
      have hml3 : ml ≤ 3 := by rw [← hml]; exact HOM.out.lm
      have hmn4 : mn ≤ 4 := by rw [← hmn]; exact HOM.out.b2
      rw [hml, hmn]
      have T4 : FT g w3 w4 := ⟨hgr4, hfd4⟩
      have hO4 := FT.ord T4 hfd hO3
      have k4 := T4.bx k3 hgb
      have hSB4 := FT.sl T4 hfd hSB3 (inr_no _)
      have B4 := T4.be B3 hwg
      have HML := Lib.hid hml
      have HMN := Lib.hid hmn
      clear hsm hml hmn k3 hO3 hSB3 B3 hfd hgr4
      have km := Bx.new w4 27 #[.slice MA ml mc, .int .i64 om.le, .int .i64 om.mo, .slice NA mn nc]
      have k5 := k4.alloc (.cells #[.slice MA ml mc, .int .i64 om.le, .int .i64 om.mo, .slice NA mn nc] 27)
      have Bc := (Below.refl w4.heap.size w4).alloc (Nat.le_refl _) (.cells #[.slice MA ml mc, .int .i64 om.le, .int .i64 om.mo, .slice NA mn nc] 27)
      have hO5 := hO4.call Bc
      have hOm5 := hOm0.call Bc
      have hSB5 := hSB4.call Bc
      have B5 := B4.trans (Bc.mono B4.size)
      have hF5 := hfd4.alloc (.cells #[.slice MA ml mc, .int .i64 om.le, .int .i64 om.mo, .slice NA mn nc] 27)
      have hgl := hfd4.lt
      obtain ⟨U, hU⟩ : ∃ U, w4.alloc (.cells #[.slice MA ml mc, .int .i64 om.le, .int .i64 om.mo, .slice NA mn nc] 27) = U := ⟨_, rfl⟩
      rw [hU] at km k5 hO5 hOm5 hSB5 B5 hF5 ⊢
      obtain ⟨bm, hbm⟩ : ∃ b, w4.heap.size = b := ⟨_, rfl⟩
      rw [hbm] at km hgl ⊢
      have hgm : bm ≠ g := by omega
      have HOG : Hid (∀ b ∈ om.bs, b.gr.length ≤ 20) := Lib.hid (fun b hb => by have := (HOM.out.bs b hb).len; have := HOM.out.lm; omega)
      have HOG1 : Hid (∀ b ∈ om.bs, b.gr.length ≤ 1000) := Lib.hid (fun b hb => by have := HOG.out b hb; omega)
      clear hU hbm Bc hO4 hOm0 hSB4 B4 k4 hfd4 T4
      go_cut [9, 10] (fun v9 v10 wr => ∃ (a39 a45 : Addr) (SS : Option Addr) (ss : Nat) (BS : List Int), v9 = .slice (some a39) 3 3 ∧ v10 = .slice (some a45) 3 3 ∧ Sl wr wr.heap.size 4 (some a39) ([[.slice LA ln lc, .int .i64 o.le, .int .i64 o.mo, .slice BA bn bc], [.slice MA ml mc, .int .i64 om.le, .int .i64 om.mo, .slice NA mn nc], [.slice MA ml mc, .int .i64 om.le, .int .i64 om.mo, .slice NA mn nc]] : List (List Value)) ∧ Sl wr wr.heap.size 1 (some a45) ([[.slice SA n sc], [.slice SS mn ss], [.slice SA n sc]] : List (List Value)) ∧ Hid (BS.length = mn) ∧ Sl wr wr.heap.size 1 SS (inr BS) ∧ FT g U wr)
      case first =>
        refine AnyG.startC (by kernel_rfl) ?_
        refine AnyG.takeP (i := 4) (v := ?_) rfl (by kernel_rfl) (fun _ _ _ h => h) rfl ?_ ?_
        rotate_left
        · (intro w'; go_simp; try with_reducible rfl)
        try simp only [Act.put, List.getElem_toArray, List.getElem_cons_succ, List.getElem_cons_zero, List.setIfInBounds_toArray, List.set_cons_zero, List.set_cons_succ]
        refine AnyG.takeP (i := 5) (v := ?_) rfl (by kernel_rfl) (fun _ _ _ h => h) rfl ?_ ?_
        rotate_left
        · (intro w'; go_simp; try with_reducible rfl)
        try simp only [Act.put, List.getElem_toArray, List.getElem_cons_succ, List.getElem_cons_zero, List.setIfInBounds_toArray, List.set_cons_zero, List.set_cons_succ]
        refine AnyG.takeP (i := 8) (v := ?_) rfl (by kernel_rfl) (fun _ _ _ h => h) rfl ?_ ?_
        rotate_left
        · (intro w'; go_simp; try with_reducible rfl)
        try simp only [Act.put, List.getElem_toArray, List.getElem_cons_succ, List.getElem_cons_zero, List.setIfInBounds_toArray, List.set_cons_zero, List.set_cons_succ]
        refine AnyG.enter (fun w' : World => FT g U w') (fun i => true) ?_
        have hS : (fun w' : World => FT g U w') (U.drew) := (FT.self hF5).drew
        try dsimp only at hS
        obtain ⟨y0, hy0⟩ : ∃ y, U.drew = y := ⟨_, rfl⟩
        rw [hy0] at hS ⊢
        clear hy0
        refine AnyG.takeC (i := 0) (v := ?_) rfl (by kernel_rfl) (fun _ _ _ h => h) rfl ?_ hS ?_
        rotate_left
        · (intro w' hSw; (try dsimp only at hSw); obtain ⟨l0, l1, l2, l3, lf2, lz⟩ := (hSw.bx k5 hgb).four; go_simp; try with_reducible rfl)
        try simp only [Act.put, List.getElem_toArray, List.getElem_cons_succ, List.getElem_cons_zero, List.setIfInBounds_toArray, List.set_cons_zero, List.set_cons_succ]
        refine AnyG.takeC (i := 1) (v := ?_) rfl (by kernel_rfl) (fun _ _ _ h => h) rfl ?_ hS ?_
        rotate_left
        · (intro w' hSw; (try dsimp only at hSw); obtain ⟨m0, m1, m2, m3, mf, mz⟩ := (hSw.bx km hgm).four; go_simp; try with_reducible rfl)
        try simp only [Act.put, List.getElem_toArray, List.getElem_cons_succ, List.getElem_cons_zero, List.setIfInBounds_toArray, List.set_cons_zero, List.set_cons_succ]
        refine AnyG.takeC (i := 2) (v := ?_) rfl (by kernel_rfl) (fun _ _ _ h => h) rfl ?_ hS ?_
        rotate_left
        · (intro w' hSw; (try dsimp only at hSw); obtain ⟨m0, m1, m2, m3, mf, mz⟩ := (hSw.bx km hgm).four; go_simp; try with_reducible rfl)
        try simp only [Act.put, List.getElem_toArray, List.getElem_cons_succ, List.getElem_cons_zero, List.setIfInBounds_toArray, List.set_cons_zero, List.set_cons_succ]
        refine AnyG.takeC (i := 6) (v := ?_) rfl (by kernel_rfl) (fun _ _ _ h => h) rfl ?_ hS ?_
        rotate_left
        · (intro w' hSw; (try dsimp only at hSw); obtain ⟨m0, m1, m2, m3, mf, mz⟩ := (hSw.bx km hgm).four; go_simp; try with_reducible rfl)
        try simp only [Act.put, List.getElem_toArray, List.getElem_cons_succ, List.getElem_cons_zero, List.setIfInBounds_toArray, List.set_cons_zero, List.set_cons_succ]
        refine AnyG.all (rs := [3, 7]) (by kernel_rfl) (by simp) ?_
        intro ii hii
        simp only [List.mem_cons, List.not_mem_nil, or_false] at hii
        rcases hii with rfl | rfl
        · refine ⟨_, rfl, rfl, ?_⟩
          go_simp
          have k39 := Bx.new y0 27 #[.slice LA ln lc, .int .i64 o.le, .int .i64 o.mo, .slice BA bn bc, .slice MA ml mc, .int .i64 om.le, .int .i64 om.mo, .slice NA mn nc, .slice MA ml mc, .int .i64 om.le, .int .i64 om.mo, .slice NA mn nc]
          have hT3 := hS.alloc (.cells #[.slice LA ln lc, .int .i64 o.le, .int .i64 o.mo, .slice BA bn bc, .slice MA ml mc, .int .i64 om.le, .int .i64 om.mo, .slice NA mn nc, .slice MA ml mc, .int .i64 om.le, .int .i64 om.mo, .slice NA mn nc] 27)
          have hw3 := hS.size
          obtain ⟨z3, hy⟩ : ∃ x, y0.alloc (.cells #[.slice LA ln lc, .int .i64 o.le, .int .i64 o.mo, .slice BA bn bc, .slice MA ml mc, .int .i64 om.le, .int .i64 om.mo, .slice NA mn nc, .slice MA ml mc, .int .i64 om.le, .int .i64 om.mo, .slice NA mn nc] 27) = x := ⟨_, rfl⟩
          rw [hy] at k39 hT3 ⊢
          obtain ⟨b39, hbq⟩ : ∃ p, y0.heap.size = p := ⟨_, rfl⟩
          rw [hbq] at k39 hw3 ⊢
          clear hy hbq
          have hSn := hT3
          clear hS
          refine Onward.on hSn (fun hS => ?_)
          try dsimp only at hS
          clear hSn
          try simp only [Act.put, List.getElem_toArray, List.getElem_cons_succ, List.getElem_cons_zero, List.setIfInBounds_toArray, List.set_cons_zero, List.set_cons_succ]
          refine AnyG.one (i := 7) (by kernel_rfl) rfl rfl ?_
          go_simp
          refine (kBlendOf_any g MA ml mc NA mn nc om _ hS.2 HML.out HMN.out (FT.ord hS hF5 hOm5) HOM.out).mono ?_
          rintro e7 z7 ⟨⟨SS, ss, BS, rfl, hBS, hzS, hSS⟩, hF7, hg7⟩
          replace k39 := k39.grown hg7 (by have := hF5.lt; simp; omega)
          have hSn := (hS.call hg7 hF7)
          clear hS
          refine Onward.on hSn (fun hS => ?_)
          try dsimp only at hS
          clear hSn
          try simp only [Act.put, List.getElem_toArray, List.getElem_cons_succ, List.getElem_cons_zero, List.setIfInBounds_toArray, List.set_cons_zero, List.set_cons_succ]
          refine AnyG.all (rs := [9, 10]) (by kernel_rfl) (by simp) ?_
          intro ii hii
          simp only [List.mem_cons, List.not_mem_nil, or_false] at hii
          rcases hii with rfl | rfl
          · refine ⟨_, rfl, rfl, ?_⟩
            go_simp
            have k45 := Bx.new z7 22 #[.slice SA n sc, .slice SS mn ss, .slice SA n sc]
            replace k39 := k39.alloc (.cells #[.slice SA n sc, .slice SS mn ss, .slice SA n sc] 22)
            replace hSS := hSS.call ((Below.refl _ _).alloc (Nat.le_refl _) (.cells #[.slice SA n sc, .slice SS mn ss, .slice SA n sc] 22))
            have hT9 := hS.alloc (.cells #[.slice SA n sc, .slice SS mn ss, .slice SA n sc] 22)
            obtain ⟨z9, hy⟩ : ∃ x, z7.alloc (.cells #[.slice SA n sc, .slice SS mn ss, .slice SA n sc] 22) = x := ⟨_, rfl⟩
            rw [hy] at k39 k45 hSS hT9 ⊢
            obtain ⟨b45, hbq⟩ : ∃ p, z7.heap.size = p := ⟨_, rfl⟩
            rw [hbq] at k45 ⊢
            clear hy hbq
            have hSn := hT9
            clear hS
            refine Onward.on hSn (fun hS => ?_)
            try dsimp only at hS
            clear hSn
            try simp only [Act.put, List.getElem_toArray, List.getElem_cons_succ, List.getElem_cons_zero, List.setIfInBounds_toArray, List.set_cons_zero, List.set_cons_succ]
            refine AnyG.one (i := 10) (by kernel_rfl) rfl rfl ?_
            go_simp
            refine Onward.on hS (fun hS2 => ?_)
            clear hS2
            try simp only [Act.put, List.getElem_toArray, List.getElem_cons_succ, List.getElem_cons_zero, List.setIfInBounds_toArray, List.set_cons_zero, List.set_cons_succ]
            refine AnyG.one (i := 11) (by kernel_rfl) rfl rfl ?_
            go_simp
            refine Onward.on hS (fun hS2 => ?_)
            clear hS2
            try simp only [Act.put, List.getElem_toArray, List.getElem_cons_succ, List.getElem_cons_zero, List.setIfInBounds_toArray, List.set_cons_zero, List.set_cons_succ]
            refine AnyG.done (by kernel_rfl) ?_ _
            have hT := hS
            clear hS
            go_simp
            go_wp2_with fail
            go_meet
            exact ⟨⟨b39, 0, none⟩, ⟨b45, 0, none⟩, SS, ss, BS, rfl, rfl, Sl.of_bx k39 (by intro k r hr j u hu; match k, hr with | 0, hr => (obtain rfl := Option.some.inj hr; match j, hu with | 0, hu => exact hu | 1, hu => exact hu | 2, hu => exact hu | 3, hu => exact hu | j + 4, hu => simp at hu) | 1, hr => (obtain rfl := Option.some.inj hr; match j, hu with | 0, hu => exact hu | 1, hu => exact hu | 2, hu => exact hu | 3, hu => exact hu | j + 4, hu => simp at hu) | 2, hr => (obtain rfl := Option.some.inj hr; match j, hu with | 0, hu => exact hu | 1, hu => exact hu | 2, hu => exact hu | 3, hu => exact hu | j + 4, hu => simp at hu) | k + 3, hr => simp at hr), Sl.of_bx k45 (by intro k r hr j u hu; match k, hr with | 0, hr => (obtain rfl := Option.some.inj hr; match j, hu with | 0, hu => exact hu | j + 1, hu => simp at hu) | 1, hr => (obtain rfl := Option.some.inj hr; match j, hu with | 0, hu => exact hu | j + 1, hu => simp at hu) | 2, hr => (obtain rfl := Option.some.inj hr; match j, hu with | 0, hu => exact hu | j + 1, hu => simp at hu) | k + 3, hr => simp at hr), Lib.hid hBS, hSS, hT⟩
          · refine ⟨_, rfl, rfl, ?_⟩
            go_simp
            refine Onward.on hS (fun hS2 => ?_)
            clear hS2
            try simp only [Act.put, List.getElem_toArray, List.getElem_cons_succ, List.getElem_cons_zero, List.setIfInBounds_toArray, List.set_cons_zero, List.set_cons_succ]
            refine AnyG.one (i := 9) (by kernel_rfl) rfl rfl ?_
            go_simp
            have k45 := Bx.new z7 22 #[.slice SA n sc, .slice SS mn ss, .slice SA n sc]
            replace k39 := k39.alloc (.cells #[.slice SA n sc, .slice SS mn ss, .slice SA n sc] 22)
            replace hSS := hSS.call ((Below.refl _ _).alloc (Nat.le_refl _) (.cells #[.slice SA n sc, .slice SS mn ss, .slice SA n sc] 22))
            have hT9 := hS.alloc (.cells #[.slice SA n sc, .slice SS mn ss, .slice SA n sc] 22)
            obtain ⟨z9, hy⟩ : ∃ x, z7.alloc (.cells #[.slice SA n sc, .slice SS mn ss, .slice SA n sc] 22) = x := ⟨_, rfl⟩
            rw [hy] at k39 k45 hSS hT9 ⊢
            obtain ⟨b45, hbq⟩ : ∃ p, z7.heap.size = p := ⟨_, rfl⟩
            rw [hbq] at k45 ⊢
            clear hy hbq
            have hSn := hT9
            clear hS
            refine Onward.on hSn (fun hS => ?_)
            try dsimp only at hS
            clear hSn
            try simp only [Act.put, List.getElem_toArray, List.getElem_cons_succ, List.getElem_cons_zero, List.setIfInBounds_toArray, List.set_cons_zero, List.set_cons_succ]
            refine AnyG.one (i := 11) (by kernel_rfl) rfl rfl ?_
            go_simp
            refine Onward.on hS (fun hS2 => ?_)
            clear hS2
            try simp only [Act.put, List.getElem_toArray, List.getElem_cons_succ, List.getElem_cons_zero, List.setIfInBounds_toArray, List.set_cons_zero, List.set_cons_succ]
            refine AnyG.done (by kernel_rfl) ?_ _
            have hT := hS
            clear hS
            go_simp
            go_wp2_with fail
            go_meet
            exact ⟨⟨b39, 0, none⟩, ⟨b45, 0, none⟩, SS, ss, BS, rfl, rfl, Sl.of_bx k39 (by intro k r hr j u hu; match k, hr with | 0, hr => (obtain rfl := Option.some.inj hr; match j, hu with | 0, hu => exact hu | 1, hu => exact hu | 2, hu => exact hu | 3, hu => exact hu | j + 4, hu => simp at hu) | 1, hr => (obtain rfl := Option.some.inj hr; match j, hu with | 0, hu => exact hu | 1, hu => exact hu | 2, hu => exact hu | 3, hu => exact hu | j + 4, hu => simp at hu) | 2, hr => (obtain rfl := Option.some.inj hr; match j, hu with | 0, hu => exact hu | 1, hu => exact hu | 2, hu => exact hu | 3, hu => exact hu | j + 4, hu => simp at hu) | k + 3, hr => simp at hr), Sl.of_bx k45 (by intro k r hr j u hu; match k, hr with | 0, hr => (obtain rfl := Option.some.inj hr; match j, hu with | 0, hu => exact hu | j + 1, hu => simp at hu) | 1, hr => (obtain rfl := Option.some.inj hr; match j, hu with | 0, hu => exact hu | j + 1, hu => simp at hu) | 2, hr => (obtain rfl := Option.some.inj hr; match j, hu with | 0, hu => exact hu | j + 1, hu => simp at hu) | k + 3, hr => simp at hr), Lib.hid hBS, hSS, hT⟩
        · refine ⟨_, rfl, rfl, ?_⟩
          go_simp
          refine (kBlendOf_any g MA ml mc NA mn nc om _ hS.2 HML.out HMN.out (FT.ord hS hF5 hOm5) HOM.out).mono ?_
          rintro e7 z7 ⟨⟨SS, ss, BS, rfl, hBS, hzS, hSS⟩, hF7, hg7⟩
          have hSn := (hS.call hg7 hF7)
          clear hS
          refine Onward.on hSn (fun hS => ?_)
          try dsimp only at hS
          clear hSn
          try simp only [Act.put, List.getElem_toArray, List.getElem_cons_succ, List.getElem_cons_zero, List.setIfInBounds_toArray, List.set_cons_zero, List.set_cons_succ]
          refine AnyG.all (rs := [3, 9]) (by kernel_rfl) (by simp) ?_
          intro ii hii
          simp only [List.mem_cons, List.not_mem_nil, or_false] at hii
          rcases hii with rfl | rfl
          · refine ⟨_, rfl, rfl, ?_⟩
            go_simp
            have k39 := Bx.new z7 27 #[.slice LA ln lc, .int .i64 o.le, .int .i64 o.mo, .slice BA bn bc, .slice MA ml mc, .int .i64 om.le, .int .i64 om.mo, .slice NA mn nc, .slice MA ml mc, .int .i64 om.le, .int .i64 om.mo, .slice NA mn nc]
            have hT3 := hS.alloc (.cells #[.slice LA ln lc, .int .i64 o.le, .int .i64 o.mo, .slice BA bn bc, .slice MA ml mc, .int .i64 om.le, .int .i64 om.mo, .slice NA mn nc, .slice MA ml mc, .int .i64 om.le, .int .i64 om.mo, .slice NA mn nc] 27)
            have hw3 := hS.size
            replace hSS := hSS.call ((Below.refl _ _).alloc (Nat.le_refl _) (.cells #[.slice LA ln lc, .int .i64 o.le, .int .i64 o.mo, .slice BA bn bc, .slice MA ml mc, .int .i64 om.le, .int .i64 om.mo, .slice NA mn nc, .slice MA ml mc, .int .i64 om.le, .int .i64 om.mo, .slice NA mn nc] 27))
            obtain ⟨z3, hy⟩ : ∃ x, z7.alloc (.cells #[.slice LA ln lc, .int .i64 o.le, .int .i64 o.mo, .slice BA bn bc, .slice MA ml mc, .int .i64 om.le, .int .i64 om.mo, .slice NA mn nc, .slice MA ml mc, .int .i64 om.le, .int .i64 om.mo, .slice NA mn nc] 27) = x := ⟨_, rfl⟩
            rw [hy] at hSS k39 hT3 ⊢
            obtain ⟨b39, hbq⟩ : ∃ p, z7.heap.size = p := ⟨_, rfl⟩
            rw [hbq] at k39 hw3 ⊢
            clear hy hbq
            have hSn := hT3
            clear hS
            refine Onward.on hSn (fun hS => ?_)
            try dsimp only at hS
            clear hSn
            try simp only [Act.put, List.getElem_toArray, List.getElem_cons_succ, List.getElem_cons_zero, List.setIfInBounds_toArray, List.set_cons_zero, List.set_cons_succ]
            refine AnyG.all (rs := [9, 10]) (by kernel_rfl) (by simp) ?_
            intro ii hii
            simp only [List.mem_cons, List.not_mem_nil, or_false] at hii
            rcases hii with rfl | rfl
            · refine ⟨_, rfl, rfl, ?_⟩
              go_simp
              have k45 := Bx.new z3 22 #[.slice SA n sc, .slice SS mn ss, .slice SA n sc]
              replace k39 := k39.alloc (.cells #[.slice SA n sc, .slice SS mn ss, .slice SA n sc] 22)
              replace hSS := hSS.call ((Below.refl _ _).alloc (Nat.le_refl _) (.cells #[.slice SA n sc, .slice SS mn ss, .slice SA n sc] 22))
              have hT9 := hS.alloc (.cells #[.slice SA n sc, .slice SS mn ss, .slice SA n sc] 22)
              obtain ⟨z9, hy⟩ : ∃ x, z3.alloc (.cells #[.slice SA n sc, .slice SS mn ss, .slice SA n sc] 22) = x := ⟨_, rfl⟩
              rw [hy] at k39 k45 hSS hT9 ⊢
              obtain ⟨b45, hbq⟩ : ∃ p, z3.heap.size = p := ⟨_, rfl⟩
              rw [hbq] at k45 ⊢
              clear hy hbq
              have hSn := hT9
              clear hS
              refine Onward.on hSn (fun hS => ?_)
              try dsimp only at hS
              clear hSn
              try simp only [Act.put, List.getElem_toArray, List.getElem_cons_succ, List.getElem_cons_zero, List.setIfInBounds_toArray, List.set_cons_zero, List.set_cons_succ]
              refine AnyG.one (i := 10) (by kernel_rfl) rfl rfl ?_
              go_simp
              refine Onward.on hS (fun hS2 => ?_)
              clear hS2
              try simp only [Act.put, List.getElem_toArray, List.getElem_cons_succ, List.getElem_cons_zero, List.setIfInBounds_toArray, List.set_cons_zero, List.set_cons_succ]
              refine AnyG.one (i := 11) (by kernel_rfl) rfl rfl ?_
              go_simp
              refine Onward.on hS (fun hS2 => ?_)
              clear hS2
              try simp only [Act.put, List.getElem_toArray, List.getElem_cons_succ, List.getElem_cons_zero, List.setIfInBounds_toArray, List.set_cons_zero, List.set_cons_succ]
              refine AnyG.done (by kernel_rfl) ?_ _
              have hT := hS
              clear hS
              go_simp
              go_wp2_with fail
              go_meet
              exact ⟨⟨b39, 0, none⟩, ⟨b45, 0, none⟩, SS, ss, BS, rfl, rfl, Sl.of_bx k39 (by intro k r hr j u hu; match k, hr with | 0, hr => (obtain rfl := Option.some.inj hr; match j, hu with | 0, hu => exact hu | 1, hu => exact hu | 2, hu => exact hu | 3, hu => exact hu | j + 4, hu => simp at hu) | 1, hr => (obtain rfl := Option.some.inj hr; match j, hu with | 0, hu => exact hu | 1, hu => exact hu | 2, hu => exact hu | 3, hu => exact hu | j + 4, hu => simp at hu) | 2, hr => (obtain rfl := Option.some.inj hr; match j, hu with | 0, hu => exact hu | 1, hu => exact hu | 2, hu => exact hu | 3, hu => exact hu | j + 4, hu => simp at hu) | k + 3, hr => simp at hr), Sl.of_bx k45 (by intro k r hr j u hu; match k, hr with | 0, hr => (obtain rfl := Option.some.inj hr; match j, hu with | 0, hu => exact hu | j + 1, hu => simp at hu) | 1, hr => (obtain rfl := Option.some.inj hr; match j, hu with | 0, hu => exact hu | j + 1, hu => simp at hu) | 2, hr => (obtain rfl := Option.some.inj hr; match j, hu with | 0, hu => exact hu | j + 1, hu => simp at hu) | k + 3, hr => simp at hr), Lib.hid hBS, hSS, hT⟩
            · refine ⟨_, rfl, rfl, ?_⟩
              go_simp
              refine Onward.on hS (fun hS2 => ?_)
              clear hS2
              try simp only [Act.put, List.getElem_toArray, List.getElem_cons_succ, List.getElem_cons_zero, List.setIfInBounds_toArray, List.set_cons_zero, List.set_cons_succ]
              refine AnyG.one (i := 9) (by kernel_rfl) rfl rfl ?_
              go_simp
              have k45 := Bx.new z3 22 #[.slice SA n sc, .slice SS mn ss, .slice SA n sc]
              replace k39 := k39.alloc (.cells #[.slice SA n sc, .slice SS mn ss, .slice SA n sc] 22)
              replace hSS := hSS.call ((Below.refl _ _).alloc (Nat.le_refl _) (.cells #[.slice SA n sc, .slice SS mn ss, .slice SA n sc] 22))
              have hT9 := hS.alloc (.cells #[.slice SA n sc, .slice SS mn ss, .slice SA n sc] 22)
              obtain ⟨z9, hy⟩ : ∃ x, z3.alloc (.cells #[.slice SA n sc, .slice SS mn ss, .slice SA n sc] 22) = x := ⟨_, rfl⟩
              rw [hy] at k39 k45 hSS hT9 ⊢
              obtain ⟨b45, hbq⟩ : ∃ p, z3.heap.size = p := ⟨_, rfl⟩
              rw [hbq] at k45 ⊢
              clear hy hbq
              have hSn := hT9
              clear hS
              refine Onward.on hSn (fun hS => ?_)
              try dsimp only at hS
              clear hSn
              try simp only [Act.put, List.getElem_toArray, List.getElem_cons_succ, List.getElem_cons_zero, List.setIfInBounds_toArray, List.set_cons_zero, List.set_cons_succ]
              refine AnyG.one (i := 11) (by kernel_rfl) rfl rfl ?_
              go_simp
              refine Onward.on hS (fun hS2 => ?_)
              clear hS2
              try simp only [Act.put, List.getElem_toArray, List.getElem_cons_succ, List.getElem_cons_zero, List.setIfInBounds_toArray, List.set_cons_zero, List.set_cons_succ]
              refine AnyG.done (by kernel_rfl) ?_ _
              have hT := hS
              clear hS
              go_simp
              go_wp2_with fail
              go_meet
              exact ⟨⟨b39, 0, none⟩, ⟨b45, 0, none⟩, SS, ss, BS, rfl, rfl, Sl.of_bx k39 (by intro k r hr j u hu; match k, hr with | 0, hr => (obtain rfl := Option.some.inj hr; match j, hu with | 0, hu => exact hu | 1, hu => exact hu | 2, hu => exact hu | 3, hu => exact hu | j + 4, hu => simp at hu) | 1, hr => (obtain rfl := Option.some.inj hr; match j, hu with | 0, hu => exact hu | 1, hu => exact hu | 2, hu => exact hu | 3, hu => exact hu | j + 4, hu => simp at hu) | 2, hr => (obtain rfl := Option.some.inj hr; match j, hu with | 0, hu => exact hu | 1, hu => exact hu | 2, hu => exact hu | 3, hu => exact hu | j + 4, hu => simp at hu) | k + 3, hr => simp at hr), Sl.of_bx k45 (by intro k r hr j u hu; match k, hr with | 0, hr => (obtain rfl := Option.some.inj hr; match j, hu with | 0, hu => exact hu | j + 1, hu => simp at hu) | 1, hr => (obtain rfl := Option.some.inj hr; match j, hu with | 0, hu => exact hu | j + 1, hu => simp at hu) | 2, hr => (obtain rfl := Option.some.inj hr; match j, hu with | 0, hu => exact hu | j + 1, hu => simp at hu) | k + 3, hr => simp at hr), Lib.hid hBS, hSS, hT⟩
          · refine ⟨_, rfl, rfl, ?_⟩
            go_simp
            have k45 := Bx.new z7 22 #[.slice SA n sc, .slice SS mn ss, .slice SA n sc]
            replace hSS := hSS.call ((Below.refl _ _).alloc (Nat.le_refl _) (.cells #[.slice SA n sc, .slice SS mn ss, .slice SA n sc] 22))
            have hT9 := hS.alloc (.cells #[.slice SA n sc, .slice SS mn ss, .slice SA n sc] 22)
            obtain ⟨z9, hy⟩ : ∃ x, z7.alloc (.cells #[.slice SA n sc, .slice SS mn ss, .slice SA n sc] 22) = x := ⟨_, rfl⟩
            rw [hy] at k45 hSS hT9 ⊢
            obtain ⟨b45, hbq⟩ : ∃ p, z7.heap.size = p := ⟨_, rfl⟩
            rw [hbq] at k45 ⊢
            clear hy hbq
            have hSn := hT9
            clear hS
            refine Onward.on hSn (fun hS => ?_)
            try dsimp only at hS
            clear hSn
            try simp only [Act.put, List.getElem_toArray, List.getElem_cons_succ, List.getElem_cons_zero, List.setIfInBounds_toArray, List.set_cons_zero, List.set_cons_succ]
            refine AnyG.one (i := 3) (by kernel_rfl) rfl rfl ?_
            go_simp
            have k39 := Bx.new z9 27 #[.slice LA ln lc, .int .i64 o.le, .int .i64 o.mo, .slice BA bn bc, .slice MA ml mc, .int .i64 om.le, .int .i64 om.mo, .slice NA mn nc, .slice MA ml mc, .int .i64 om.le, .int .i64 om.mo, .slice NA mn nc]
            have hT3 := hS.alloc (.cells #[.slice LA ln lc, .int .i64 o.le, .int .i64 o.mo, .slice BA bn bc, .slice MA ml mc, .int .i64 om.le, .int .i64 om.mo, .slice NA mn nc, .slice MA ml mc, .int .i64 om.le, .int .i64 om.mo, .slice NA mn nc] 27)
            have hw3 := hS.size
            replace hSS := hSS.call ((Below.refl _ _).alloc (Nat.le_refl _) (.cells #[.slice LA ln lc, .int .i64 o.le, .int .i64 o.mo, .slice BA bn bc, .slice MA ml mc, .int .i64 om.le, .int .i64 om.mo, .slice NA mn nc, .slice MA ml mc, .int .i64 om.le, .int .i64 om.mo, .slice NA mn nc] 27))
            replace k45 := k45.alloc (.cells #[.slice LA ln lc, .int .i64 o.le, .int .i64 o.mo, .slice BA bn bc, .slice MA ml mc, .int .i64 om.le, .int .i64 om.mo, .slice NA mn nc, .slice MA ml mc, .int .i64 om.le, .int .i64 om.mo, .slice NA mn nc] 27)
            obtain ⟨z3, hy⟩ : ∃ x, z9.alloc (.cells #[.slice LA ln lc, .int .i64 o.le, .int .i64 o.mo, .slice BA bn bc, .slice MA ml mc, .int .i64 om.le, .int .i64 om.mo, .slice NA mn nc, .slice MA ml mc, .int .i64 om.le, .int .i64 om.mo, .slice NA mn nc] 27) = x := ⟨_, rfl⟩
            rw [hy] at hSS k45 k39 hT3 ⊢
            obtain ⟨b39, hbq⟩ : ∃ p, z9.heap.size = p := ⟨_, rfl⟩
            rw [hbq] at k39 hw3 ⊢
            clear hy hbq
            have hSn := hT3
            clear hS
            refine Onward.on hSn (fun hS => ?_)
            try dsimp only at hS
            clear hSn
            try simp only [Act.put, List.getElem_toArray, List.getElem_cons_succ, List.getElem_cons_zero, List.setIfInBounds_toArray, List.set_cons_zero, List.set_cons_succ]
            refine AnyG.one (i := 10) (by kernel_rfl) rfl rfl ?_
            go_simp
            refine Onward.on hS (fun hS2 => ?_)
            clear hS2
            try simp only [Act.put, List.getElem_toArray, List.getElem_cons_succ, List.getElem_cons_zero, List.setIfInBounds_toArray, List.set_cons_zero, List.set_cons_succ]
            refine AnyG.one (i := 11) (by kernel_rfl) rfl rfl ?_
            go_simp
            refine Onward.on hS (fun hS2 => ?_)
            clear hS2
            try simp only [Act.put, List.getElem_toArray, List.getElem_cons_succ, List.getElem_cons_zero, List.setIfInBounds_toArray, List.set_cons_zero, List.set_cons_succ]
            refine AnyG.done (by kernel_rfl) ?_ _
            have hT := hS
            clear hS
            go_simp
            go_wp2_with fail
            go_meet
            exact ⟨⟨b39, 0, none⟩, ⟨b45, 0, none⟩, SS, ss, BS, rfl, rfl, Sl.of_bx k39 (by intro k r hr j u hu; match k, hr with | 0, hr => (obtain rfl := Option.some.inj hr; match j, hu with | 0, hu => exact hu | 1, hu => exact hu | 2, hu => exact hu | 3, hu => exact hu | j + 4, hu => simp at hu) | 1, hr => (obtain rfl := Option.some.inj hr; match j, hu with | 0, hu => exact hu | 1, hu => exact hu | 2, hu => exact hu | 3, hu => exact hu | j + 4, hu => simp at hu) | 2, hr => (obtain rfl := Option.some.inj hr; match j, hu with | 0, hu => exact hu | 1, hu => exact hu | 2, hu => exact hu | 3, hu => exact hu | j + 4, hu => simp at hu) | k + 3, hr => simp at hr), Sl.of_bx k45 (by intro k r hr j u hu; match k, hr with | 0, hr => (obtain rfl := Option.some.inj hr; match j, hu with | 0, hu => exact hu | j + 1, hu => simp at hu) | 1, hr => (obtain rfl := Option.some.inj hr; match j, hu with | 0, hu => exact hu | j + 1, hu => simp at hu) | 2, hr => (obtain rfl := Option.some.inj hr; match j, hu with | 0, hu => exact hu | j + 1, hu => simp at hu) | k + 3, hr => simp at hr), Lib.hid hBS, hSS, hT⟩
      case rest =>
        obtain ⟨a39, a45, SS, ss, BS, rfl, rfl, k39, k45, HBS, hSS, hT⟩ := hcut
        obtain ⟨W, hW⟩ : ∃ W, W = wc := ⟨_, rfl⟩
        subst hW
        have hO6 := FT.ord hT hF5 hO5
        have hOm6 := FT.ord hT hF5 hOm5
        have hSB6 := FT.sl hT hF5 hSB5 (inr_no _)
        have B6 := hT.be B5 hwg
        clear hO5 hOm5 hSB5 B5 k5 km hF5 hT
        have HR : Hid (∀ i, i < 3 → ∃ (o9 : Od) (LA9 : Option Addr) (ln9 lc9 : Nat) (BA9 : Option Addr) (bn9 bc9 : Nat) (SA9 : Option Addr) (n9 sc9 : Nat) (BL9 : List Int), (([[.slice LA ln lc, .int .i64 o.le, .int .i64 o.mo, .slice BA bn bc], [.slice MA ml mc, .int .i64 om.le, .int .i64 om.mo, .slice NA mn nc], [.slice MA ml mc, .int .i64 om.le, .int .i64 om.mo, .slice NA mn nc]] : List (List Value)))[i]? = some [.slice LA9 ln9 lc9, .int .i64 o9.le, .int .i64 o9.mo, .slice BA9 bn9 bc9] ∧ (([[.slice SA n sc], [.slice SS mn ss], [.slice SA n sc]] : List (List Value)))[i]? = some [.slice SA9 n9 sc9] ∧ (o9.lm.length = ln9 ∧ o9.bs.length = bn9 ∧ ln9 ≤ 20 ∧ bn9 ≤ 20 ∧ n9 ≤ 20) ∧ (∀ b ∈ o9.bs, b.gr.length ≤ 20) ∧ OrdAt W W.heap.size LA9 BA9 o9 ∧ BL9.length = n9 ∧ Sl W W.heap.size 1 SA9 (inr BL9)) := Lib.hid (fun i hi => by
          rcases (show i = 0 ∨ i = 1 ∨ i = 2 by omega) with rfl | rfl | rfl
          · exact ⟨o, LA, ln, lc, BA, bn, bc, SA, n, sc, BL, rfl, rfl, ⟨HLN.out, HBN.out, hln20, hbn20, hn20'⟩, HGR.out, hO6, HBL.out, hSB6⟩
          · exact ⟨om, MA, ml, mc, NA, mn, nc, SS, mn, ss, BS, rfl, rfl, ⟨HML.out, HMN.out, by omega, by omega, by omega⟩, HOG.out, hOm6, HBS.out, hSS⟩
          · exact ⟨om, MA, ml, mc, NA, mn, nc, SA, n, sc, BL, rfl, rfl, ⟨HML.out, HMN.out, by omega, by omega, hn20'⟩, HOG.out, hOm6, HBL.out, hSB6⟩)
        have K39 := Lib.hid k39
        have K45 := Lib.hid k45
        clear k39 k45 hO6 hOm6 hSB6 hSS
        go_wp2_with fail
        go_loopw [11, 12, 13, 14, 15, 16, 17, 18, 19, 20, 21, 22, 23] (fun v _ _ _ _ _ _ _ _ _ _ _ _ wr => ∃ (i : Nat), v = .int .i64 i ∧ i ≤ 3 ∧ Below W.heap.size W wr) (fun v _ _ _ _ _ _ _ _ _ _ _ _ _ => 3 - (intOf v).toNat)
        case atStart => exact ⟨0, rfl, by omega, Below.refl _ _⟩
        case round =>
          obtain ⟨i, rfl, hi, hWr⟩ := hrel
          by_cases hi3 : i < 3
          · obtain ⟨o9, LA9, ln9, lc9, BA9, bn9, bc9, SA9, n9, sc9, BL9, hr39, hr45, ⟨hl9, hb9, hln9, hbn9, hn9⟩, hg9, hO9, hBL9, hSB9⟩ := HR.out i hi3
            have HQ39 : Hid (∀ x, Below W.heap.size W x → x.cell? (a39.add (i * 4)) = some (.slice LA9 ln9 lc9) ∧ x.cell? ⟨(a39.add (i * 4)).block, (a39.add (i * 4)).off + 1, none⟩ = some (.int .i64 o9.le) ∧ x.cell? ⟨(a39.add (i * 4)).block, (a39.add (i * 4)).off + 2, none⟩ = some (.int .i64 o9.mo) ∧ x.cell? ⟨(a39.add (i * 4)).block, (a39.add (i * 4)).off + 3, none⟩ = some (.slice BA9 bn9 bc9)) := Lib.hid (fun x hx => by
              obtain ⟨ad, e1, -, e3⟩ := (K39.out.call hx) i _ hr39
              obtain rfl := Option.some.inj e1
              exact ⟨e3.head rfl, e3.next 0 rfl, e3.next 1 rfl, e3.next 2 rfl⟩)
            have HQ45 : Hid (∀ x, Below W.heap.size W x → x.cell? (a45.add i) = some (.slice SA9 n9 sc9)) := Lib.hid (fun x hx => by
              obtain ⟨ad, e1, -, e3⟩ := (K45.out.call hx) i _ hr45
              obtain rfl := Option.some.inj e1
              have := e3.head rfl
              rwa [Nat.mul_one] at this)
            have HLN9 := Lib.hid hl9
            have HBN9 := Lib.hid hb9
            have HG209 := Lib.hid hg9
            have HG19 : Hid (∀ b ∈ o9.bs, b.gr.length ≤ 1000) := Lib.hid (fun b hb => by have := hg9 b hb; omega)
            have HBL9 := Lib.hid hBL9
            have hi3' : (i : Int) < 3 := by omega
            have hiw : IntKind.i64.wrap ((i : Int) + 1) = (i : Int) + 1 := IntWalk.i64_in _ (by omega)
            clear hr39 hr45 hl9 hb9 hg9 hBL9
            go_upto_region 9 with fail
            go_cut [12, 13] (fun v12 v13 x => ∃ (b12 : Nat) (XA : Option Addr) (xc : Nat) (YA : Option Addr) (yc : Nat) (IA : Option Addr) (ic : Nat), v12 = .pointer (some ⟨b12, 0, none⟩) ∧ v13 = .slice IA n9 ic ∧ Bx x b12 27 #[.slice XA ln9 xc, .int .i64 o9.le, .int .i64 o9.mo, .slice YA bn9 yc] ∧ OrdAt x x.heap.size XA YA o9 ∧ Sl x x.heap.size 1 IA (inr BL9) ∧ Below W.heap.size W x)
            case first =>
              refine AnyG.startC (by kernel_rfl) ?_
              refine AnyG.takeP (i := 0) (v := ?_) rfl (by kernel_rfl) (fun _ _ _ h => h) rfl ?_ ?_
              rotate_left
              · (intro w'; go_simp; try with_reducible rfl)
              try simp only [Act.put, List.getElem_toArray, List.getElem_cons_succ, List.getElem_cons_zero, List.setIfInBounds_toArray, List.set_cons_zero, List.set_cons_succ]
              refine AnyG.takeP (i := 1) (v := ?_) rfl (by kernel_rfl) (fun _ _ _ h => h) rfl ?_ ?_
              rotate_left
              · (intro w'; go_simp; try with_reducible rfl)
              try simp only [Act.put, List.getElem_toArray, List.getElem_cons_succ, List.getElem_cons_zero, List.setIfInBounds_toArray, List.set_cons_zero, List.set_cons_succ]
              refine AnyG.takeP (i := 2) (v := ?_) rfl (by kernel_rfl) (fun _ _ _ h => h) rfl ?_ ?_
              rotate_left
              · (intro w'; go_simp; try with_reducible rfl)
              try simp only [Act.put, List.getElem_toArray, List.getElem_cons_succ, List.getElem_cons_zero, List.setIfInBounds_toArray, List.set_cons_zero, List.set_cons_succ]
              refine AnyG.takeP (i := 5) (v := ?_) rfl (by kernel_rfl) (fun _ _ _ h => h) rfl ?_ ?_
              rotate_left
              · (intro w'; go_simp; try with_reducible rfl)
              try simp only [Act.put, List.getElem_toArray, List.getElem_cons_succ, List.getElem_cons_zero, List.setIfInBounds_toArray, List.set_cons_zero, List.set_cons_succ]
              refine AnyG.takeP (i := 6) (v := ?_) rfl (by kernel_rfl) (fun _ _ _ h => h) rfl ?_ ?_
              rotate_left
              · (intro w'; go_simp; try with_reducible rfl)
              try simp only [Act.put, List.getElem_toArray, List.getElem_cons_succ, List.getElem_cons_zero, List.setIfInBounds_toArray, List.set_cons_zero, List.set_cons_succ]
              refine AnyG.takeP (i := 7) (v := ?_) rfl (by kernel_rfl) (fun _ _ _ h => h) rfl ?_ ?_
              rotate_left
              · (intro w'; go_simp; try with_reducible rfl)
              try simp only [Act.put, List.getElem_toArray, List.getElem_cons_succ, List.getElem_cons_zero, List.setIfInBounds_toArray, List.set_cons_zero, List.set_cons_succ]
              refine AnyG.enter (fun w' : World => Below wr.heap.size wr w') (fun i => i != 11 && i != 12) ?_
              have hS : (fun w' : World => Below wr.heap.size wr w') (wr.drew) := (Below.refl _ _).drew
              try dsimp only at hS
              obtain ⟨y0, hy0⟩ : ∃ y, wr.drew = y := ⟨_, rfl⟩
              rw [hy0] at hS ⊢
              clear hy0
              refine AnyG.takeC (i := 3) (v := ?_) rfl (by kernel_rfl) (fun _ _ _ h => h) rfl ?_ hS ?_
              rotate_left
              · (intro w' hSw; (try dsimp only at hSw); obtain ⟨q0, q1, q2, q3⟩ := HQ39.out _ (hWr.trans (hSw.mono hWr.size)); go_simp; try with_reducible rfl)
              try simp only [Act.put, List.getElem_toArray, List.getElem_cons_succ, List.getElem_cons_zero, List.setIfInBounds_toArray, List.set_cons_zero, List.set_cons_succ]
              refine AnyG.takeC (i := 8) (v := ?_) rfl (by kernel_rfl) (fun _ _ _ h => h) rfl ?_ hS ?_
              rotate_left
              · (intro w' hSw; (try dsimp only at hSw); have r0 := HQ45.out _ (hWr.trans (hSw.mono hWr.size)); go_simp; try with_reducible rfl)
              try simp only [Act.put, List.getElem_toArray, List.getElem_cons_succ, List.getElem_cons_zero, List.setIfInBounds_toArray, List.set_cons_zero, List.set_cons_succ]
              refine AnyG.all (rs := [4, 10]) (by kernel_rfl) (by simp) ?_
              intro ii hii
              simp only [List.mem_cons, List.not_mem_nil, or_false] at hii
              rcases hii with rfl | rfl
              · refine ⟨_, rfl, rfl, ?_⟩
                go_simp
                refine (copyOrder_gen LA9 ln9 lc9 BA9 bn9 bc9 o9 _ HLN9.out HBN9.out (hO9.call (hWr.trans (hS.mono hWr.size))) (by omega) (by omega) HG209.out).mono ?_
                rintro e4 y4 ⟨XA, xc, YA, yc, rs, rfl, ox, oy, bo, hq4⟩
                replace ox := ownsRow_up (b' := wr.heap.size) ox (fun q e => Nat.le_trans hS.size (ox.lt q e).1)
                replace oy := ownsRow_up (b' := wr.heap.size) oy (fun q e => Nat.le_trans hS.size (oy.lt q e).1)
                replace bo := bo.up hS.size
                have hSn := (hS.trans (hq4.mono hS.size))
                clear hS
                refine Onward.on hSn (fun hS => ?_)
                try dsimp only at hS
                clear hSn
                try simp only [Act.put, List.getElem_toArray, List.getElem_cons_succ, List.getElem_cons_zero, List.setIfInBounds_toArray, List.set_cons_zero, List.set_cons_succ]
                refine AnyG.all (rs := [9, 10]) (by kernel_rfl) (by simp) ?_
                intro ii hii
                simp only [List.mem_cons, List.not_mem_nil, or_false] at hii
                rcases hii with rfl | rfl
                · refine ⟨_, rfl, rfl, ?_⟩
                  go_simp
                  refine (ints34_any SA9 n9 sc9 BL9 _ (by omega) HBL9.out (hSB9.call (hWr.trans (hS.mono hWr.size)))).mono ?_
                  rintro e9 y9 ⟨⟨IA, ic, rfl, oi⟩, hq9⟩
                  replace ox := own_bel ox hq9
                  replace oy := own_bel oy hq9
                  replace bo := bo.bel hq9
                  have hSn := (hS.trans (hq9.mono hS.size))
                  clear hS
                  refine Onward.on hSn (fun hS => ?_)
                  try dsimp only at hS
                  clear hSn
                  try simp only [Act.put, List.getElem_toArray, List.getElem_cons_succ, List.getElem_cons_zero, List.setIfInBounds_toArray, List.set_cons_zero, List.set_cons_succ]
                  refine AnyG.one (i := 10) (by kernel_rfl) rfl rfl ?_
                  go_simp
                  have c12 := Bx.new y9 27 #[.slice none 0 0, .int .i64 0, .int .i64 0, .slice none 0 0]
                  replace ox := own_bel ox ((Below.refl _ _).alloc (Nat.le_refl _) (.cells #[.slice none 0 0, .int .i64 0, .int .i64 0, .slice none 0 0] 27))
                  replace oy := own_bel oy ((Below.refl _ _).alloc (Nat.le_refl _) (.cells #[.slice none 0 0, .int .i64 0, .int .i64 0, .slice none 0 0] 27))
                  replace bo := bo.bel ((Below.refl _ _).alloc (Nat.le_refl _) (.cells #[.slice none 0 0, .int .i64 0, .int .i64 0, .slice none 0 0] 27))
                  replace oi := own_bel oi ((Below.refl _ _).alloc (Nat.le_refl _) (.cells #[.slice none 0 0, .int .i64 0, .int .i64 0, .slice none 0 0] 27))
                  have hT := hS.alloc hS.size (.cells #[.slice none 0 0, .int .i64 0, .int .i64 0, .slice none 0 0] 27)
                  have hlb := hS.size
                  obtain ⟨y10, hy⟩ : ∃ x, y9.alloc (.cells #[.slice none 0 0, .int .i64 0, .int .i64 0, .slice none 0 0] 27) = x := ⟨_, rfl⟩
                  rw [hy] at ox oy bo oi c12 hT ⊢
                  obtain ⟨b12, hbq⟩ : ∃ p, y9.heap.size = p := ⟨_, rfl⟩
                  rw [hbq] at c12 hlb ⊢
                  clear hy hbq
                  have hSn := hT
                  clear hS
                  refine Onward.on hSn (fun hS => ?_)
                  try dsimp only at hS
                  clear hSn
                  try simp only [Act.put, List.getElem_toArray, List.getElem_cons_succ, List.getElem_cons_zero, List.setIfInBounds_toArray, List.set_cons_zero, List.set_cons_succ]
                  refine AnyG.one (i := 11) (by kernel_rfl) rfl rfl ?_
                  obtain ⟨s0, s1, s2, s3, sf, sz⟩ := c12.four
                  have hSa := hS
                  go_simp
                  clear s0 s1 s2 s3 sf sz
                  refine Onward.last rfl ?_
                  try simp only [Act.put, List.getElem_toArray, List.getElem_cons_succ, List.getElem_cons_zero, List.setIfInBounds_toArray, List.set_cons_zero, List.set_cons_succ]
                  refine AnyG.one (i := 12) (by kernel_rfl) rfl rfl ?_
                  go_simp
                  refine Onward.last rfl ?_
                  try simp only [Act.put, List.getElem_toArray, List.getElem_cons_succ, List.getElem_cons_zero, List.setIfInBounds_toArray, List.set_cons_zero, List.set_cons_succ]
                  refine AnyG.done (by kernel_rfl) ?_ _
                  have hXO := copy_put c12 ox oy bo HLN9.out HBN9.out
                  have kX := c12.set4 (.slice XA ln9 xc) (.int .i64 o9.le) (.int .i64 o9.mo) (.slice YA bn9 yc)
                  have hI := ints_put c12 oi HBL9.out (.slice XA ln9 xc) (.int .i64 o9.le) (.int .i64 o9.mo) (.slice YA bn9 yc)
                  have hWz := below4 (hWr.trans (hSa.mono hWr.size)) (b := b12) (by have := hWr.size; omega) (.slice XA ln9 xc) (.int .i64 o9.le) (.int .i64 o9.mo) (.slice YA bn9 yc)
                  go_simp
                  go_wp2_with fail
                  go_meet
                  exact ⟨b12, XA, xc, YA, yc, IA, ic, rfl, rfl, kX, hXO, hI, hWz⟩
                · refine ⟨_, rfl, rfl, ?_⟩
                  go_simp
                  have c12 := Bx.new y4 27 #[.slice none 0 0, .int .i64 0, .int .i64 0, .slice none 0 0]
                  replace ox := own_bel ox ((Below.refl _ _).alloc (Nat.le_refl _) (.cells #[.slice none 0 0, .int .i64 0, .int .i64 0, .slice none 0 0] 27))
                  replace oy := own_bel oy ((Below.refl _ _).alloc (Nat.le_refl _) (.cells #[.slice none 0 0, .int .i64 0, .int .i64 0, .slice none 0 0] 27))
                  replace bo := bo.bel ((Below.refl _ _).alloc (Nat.le_refl _) (.cells #[.slice none 0 0, .int .i64 0, .int .i64 0, .slice none 0 0] 27))
                  have hT := hS.alloc hS.size (.cells #[.slice none 0 0, .int .i64 0, .int .i64 0, .slice none 0 0] 27)
                  have hlb := hS.size
                  obtain ⟨y10, hy⟩ : ∃ x, y4.alloc (.cells #[.slice none 0 0, .int .i64 0, .int .i64 0, .slice none 0 0] 27) = x := ⟨_, rfl⟩
                  rw [hy] at ox oy bo c12 hT ⊢
                  obtain ⟨b12, hbq⟩ : ∃ p, y4.heap.size = p := ⟨_, rfl⟩
                  rw [hbq] at c12 hlb ⊢
                  clear hy hbq
                  have hSn := hT
                  clear hS
                  refine Onward.on hSn (fun hS => ?_)
                  try dsimp only at hS
                  clear hSn
                  try simp only [Act.put, List.getElem_toArray, List.getElem_cons_succ, List.getElem_cons_zero, List.setIfInBounds_toArray, List.set_cons_zero, List.set_cons_succ]
                  refine AnyG.one (i := 9) (by kernel_rfl) rfl rfl ?_
                  go_simp
                  refine (ints34_any SA9 n9 sc9 BL9 _ (by omega) HBL9.out (hSB9.call (hWr.trans (hS.mono hWr.size)))).mono ?_
                  rintro e9 y9 ⟨⟨IA, ic, rfl, oi⟩, hq9⟩
                  replace ox := own_bel ox hq9
                  replace oy := own_bel oy hq9
                  replace bo := bo.bel hq9
                  replace c12 := c12.call hq9
                  have hSn := (hS.trans (hq9.mono hS.size))
                  clear hS
                  refine Onward.on hSn (fun hS => ?_)
                  try dsimp only at hS
                  clear hSn
                  try simp only [Act.put, List.getElem_toArray, List.getElem_cons_succ, List.getElem_cons_zero, List.setIfInBounds_toArray, List.set_cons_zero, List.set_cons_succ]
                  refine AnyG.one (i := 11) (by kernel_rfl) rfl rfl ?_
                  obtain ⟨s0, s1, s2, s3, sf, sz⟩ := c12.four
                  have hSa := hS
                  go_simp
                  clear s0 s1 s2 s3 sf sz
                  refine Onward.last rfl ?_
                  try simp only [Act.put, List.getElem_toArray, List.getElem_cons_succ, List.getElem_cons_zero, List.setIfInBounds_toArray, List.set_cons_zero, List.set_cons_succ]
                  refine AnyG.one (i := 12) (by kernel_rfl) rfl rfl ?_
                  go_simp
                  refine Onward.last rfl ?_
                  try simp only [Act.put, List.getElem_toArray, List.getElem_cons_succ, List.getElem_cons_zero, List.setIfInBounds_toArray, List.set_cons_zero, List.set_cons_succ]
                  refine AnyG.done (by kernel_rfl) ?_ _
                  have hXO := copy_put c12 ox oy bo HLN9.out HBN9.out
                  have kX := c12.set4 (.slice XA ln9 xc) (.int .i64 o9.le) (.int .i64 o9.mo) (.slice YA bn9 yc)
                  have hI := ints_put c12 oi HBL9.out (.slice XA ln9 xc) (.int .i64 o9.le) (.int .i64 o9.mo) (.slice YA bn9 yc)
                  have hWz := below4 (hWr.trans (hSa.mono hWr.size)) (b := b12) (by have := hWr.size; omega) (.slice XA ln9 xc) (.int .i64 o9.le) (.int .i64 o9.mo) (.slice YA bn9 yc)
                  go_simp
                  go_wp2_with fail
                  go_meet
                  exact ⟨b12, XA, xc, YA, yc, IA, ic, rfl, rfl, kX, hXO, hI, hWz⟩
              · refine ⟨_, rfl, rfl, ?_⟩
                go_simp
                have c12 := Bx.new y0 27 #[.slice none 0 0, .int .i64 0, .int .i64 0, .slice none 0 0]
                have hT := hS.alloc hS.size (.cells #[.slice none 0 0, .int .i64 0, .int .i64 0, .slice none 0 0] 27)
                have hlb := hS.size
                obtain ⟨y10, hy⟩ : ∃ x, y0.alloc (.cells #[.slice none 0 0, .int .i64 0, .int .i64 0, .slice none 0 0] 27) = x := ⟨_, rfl⟩
                rw [hy] at c12 hT ⊢
                obtain ⟨b12, hbq⟩ : ∃ p, y0.heap.size = p := ⟨_, rfl⟩
                rw [hbq] at c12 hlb ⊢
                clear hy hbq
                have hSn := hT
                clear hS
                refine Onward.on hSn (fun hS => ?_)
                try dsimp only at hS
                clear hSn
                try simp only [Act.put, List.getElem_toArray, List.getElem_cons_succ, List.getElem_cons_zero, List.setIfInBounds_toArray, List.set_cons_zero, List.set_cons_succ]
                refine AnyG.one (i := 4) (by kernel_rfl) rfl rfl ?_
                go_simp
                refine (copyOrder_gen LA9 ln9 lc9 BA9 bn9 bc9 o9 _ HLN9.out HBN9.out (hO9.call (hWr.trans (hS.mono hWr.size))) (by omega) (by omega) HG209.out).mono ?_
                rintro e4 y4 ⟨XA, xc, YA, yc, rs, rfl, ox, oy, bo, hq4⟩
                replace ox := ownsRow_up (b' := wr.heap.size) ox (fun q e => Nat.le_trans hS.size (ox.lt q e).1)
                replace oy := ownsRow_up (b' := wr.heap.size) oy (fun q e => Nat.le_trans hS.size (oy.lt q e).1)
                replace bo := bo.up hS.size
                replace c12 := c12.call hq4
                have hSn := (hS.trans (hq4.mono hS.size))
                clear hS
                refine Onward.on hSn (fun hS => ?_)
                try dsimp only at hS
                clear hSn
                try simp only [Act.put, List.getElem_toArray, List.getElem_cons_succ, List.getElem_cons_zero, List.setIfInBounds_toArray, List.set_cons_zero, List.set_cons_succ]
                refine AnyG.one (i := 9) (by kernel_rfl) rfl rfl ?_
                go_simp
                refine (ints34_any SA9 n9 sc9 BL9 _ (by omega) HBL9.out (hSB9.call (hWr.trans (hS.mono hWr.size)))).mono ?_
                rintro e9 y9 ⟨⟨IA, ic, rfl, oi⟩, hq9⟩
                replace ox := own_bel ox hq9
                replace oy := own_bel oy hq9
                replace bo := bo.bel hq9
                replace c12 := c12.call hq9
                have hSn := (hS.trans (hq9.mono hS.size))
                clear hS
                refine Onward.on hSn (fun hS => ?_)
                try dsimp only at hS
                clear hSn
                try simp only [Act.put, List.getElem_toArray, List.getElem_cons_succ, List.getElem_cons_zero, List.setIfInBounds_toArray, List.set_cons_zero, List.set_cons_succ]
                refine AnyG.one (i := 11) (by kernel_rfl) rfl rfl ?_
                obtain ⟨s0, s1, s2, s3, sf, sz⟩ := c12.four
                have hSa := hS
                go_simp
                clear s0 s1 s2 s3 sf sz
                refine Onward.last rfl ?_
                try simp only [Act.put, List.getElem_toArray, List.getElem_cons_succ, List.getElem_cons_zero, List.setIfInBounds_toArray, List.set_cons_zero, List.set_cons_succ]
                refine AnyG.one (i := 12) (by kernel_rfl) rfl rfl ?_
                go_simp
                refine Onward.last rfl ?_
                try simp only [Act.put, List.getElem_toArray, List.getElem_cons_succ, List.getElem_cons_zero, List.setIfInBounds_toArray, List.set_cons_zero, List.set_cons_succ]
                refine AnyG.done (by kernel_rfl) ?_ _
                have hXO := copy_put c12 ox oy bo HLN9.out HBN9.out
                have kX := c12.set4 (.slice XA ln9 xc) (.int .i64 o9.le) (.int .i64 o9.mo) (.slice YA bn9 yc)
                have hI := ints_put c12 oi HBL9.out (.slice XA ln9 xc) (.int .i64 o9.le) (.int .i64 o9.mo) (.slice YA bn9 yc)
                have hWz := below4 (hWr.trans (hSa.mono hWr.size)) (b := b12) (by have := hWr.size; omega) (.slice XA ln9 xc) (.int .i64 o9.le) (.int .i64 o9.mo) (.slice YA bn9 yc)
                go_simp
                go_wp2_with fail
                go_meet
                exact ⟨b12, XA, xc, YA, yc, IA, ic, rfl, rfl, kX, hXO, hI, hWz⟩
            case rest =>
              obtain ⟨b12, XA, xc, YA, yc, IA, ic, rfl, rfl, kX, hXO, hI, hX⟩ := hcut
              obtain ⟨X0, hX0⟩ : ∃ X, X = wc := ⟨_, rfl⟩
              subst hX0
              have hz := Below.refl X0.heap.size X0
              obtain ⟨t0, t1, t2, t3, tf, tz⟩ := kX.four
              go_upto_region 11 with (first | (go_at_call 22; refine (weigh_all XA ln9 xc YA bn9 yc o9 IA n9 ic BL9 _ (by omega) (by omega) (by omega) HLN9.out HBN9.out (hXO.call hz) HG19.out HBL9.out (hI.call hz)).mono ?_; rintro e u10 ⟨rfl, hb⟩; replace hz := hz.trans (hb.mono hz.size)) | fail)
              clear t0 t1 t2 t3 tf tz hb
              go_wp2_with fail
              refine AnyG.startC (by kernel_rfl) ?_
              refine AnyG.takeP (i := 0) (v := ?_) rfl (by kernel_rfl) (fun _ _ _ h => h) rfl ?_ ?_
              rotate_left
              · (intro w'; go_simp; try with_reducible rfl)
              try simp only [Act.put, List.getElem_toArray, List.getElem_cons_succ, List.getElem_cons_zero, List.setIfInBounds_toArray, List.set_cons_zero, List.set_cons_succ]
              refine AnyG.takeP (i := 1) (v := ?_) rfl (by kernel_rfl) (fun _ _ _ h => h) rfl ?_ ?_
              rotate_left
              · (intro w'; go_simp; try with_reducible rfl)
              try simp only [Act.put, List.getElem_toArray, List.getElem_cons_succ, List.getElem_cons_zero, List.setIfInBounds_toArray, List.set_cons_zero, List.set_cons_succ]
              refine AnyG.takeP (i := 2) (v := ?_) rfl (by kernel_rfl) (fun _ _ _ h => h) rfl ?_ ?_
              rotate_left
              · (intro w'; go_simp; try with_reducible rfl)
              try simp only [Act.put, List.getElem_toArray, List.getElem_cons_succ, List.getElem_cons_zero, List.setIfInBounds_toArray, List.set_cons_zero, List.set_cons_succ]
              refine AnyG.takeP (i := 4) (v := ?_) rfl (by kernel_rfl) (fun _ _ _ h => h) rfl ?_ ?_
              rotate_left
              · (intro w'; go_simp; try with_reducible rfl)
              try simp only [Act.put, List.getElem_toArray, List.getElem_cons_succ, List.getElem_cons_zero, List.setIfInBounds_toArray, List.set_cons_zero, List.set_cons_succ]
              refine AnyG.takeP (i := 5) (v := ?_) rfl (by kernel_rfl) (fun _ _ _ h => h) rfl ?_ ?_
              rotate_left
              · (intro w'; go_simp; try with_reducible rfl)
              try simp only [Act.put, List.getElem_toArray, List.getElem_cons_succ, List.getElem_cons_zero, List.setIfInBounds_toArray, List.set_cons_zero, List.set_cons_succ]
              refine AnyG.takeP (i := 6) (v := ?_) rfl (by kernel_rfl) (fun _ _ _ h => h) rfl ?_ ?_
              rotate_left
              · (intro w'; go_simp; try with_reducible rfl)
              try simp only [Act.put, List.getElem_toArray, List.getElem_cons_succ, List.getElem_cons_zero, List.setIfInBounds_toArray, List.set_cons_zero, List.set_cons_succ]
              refine AnyG.enter (fun w' : World => Below X0.heap.size X0 w') (fun i => true) ?_
              have hS : (fun w' : World => Below X0.heap.size X0 w') (World.drew _) := hz.drew
              refine AnyG.takeC (i := 3) (v := ?_) rfl (by kernel_rfl) (fun _ _ _ h => h) rfl ?_ hS ?_
              rotate_left
              · (intro w' hSw; (try dsimp only at hSw); obtain ⟨q0, q1, q2, q3⟩ := HQ39.out _ (hX.trans (hSw.mono hX.size)); go_simp; try with_reducible rfl)
              try simp only [Act.put, List.getElem_toArray, List.getElem_cons_succ, List.getElem_cons_zero, List.setIfInBounds_toArray, List.set_cons_zero, List.set_cons_succ]
              refine AnyG.takeC (i := 7) (v := ?_) rfl (by kernel_rfl) (fun _ _ _ h => h) rfl ?_ hS ?_
              rotate_left
              · (intro w' hSw; (try dsimp only at hSw); have r0 := HQ45.out _ (hX.trans (hSw.mono hX.size)); go_simp; try with_reducible rfl)
              try simp only [Act.put, List.getElem_toArray, List.getElem_cons_succ, List.getElem_cons_zero, List.setIfInBounds_toArray, List.set_cons_zero, List.set_cons_succ]
              refine AnyG.one (i := 8) (by kernel_rfl) rfl rfl ?_
              go_simp
              refine (refWeigh_all LA9 ln9 lc9 BA9 bn9 bc9 o9 SA9 n9 sc9 BL9 _ (by omega) (by omega) (by omega) HLN9.out HBN9.out (hO9.call (hX.trans (hS.mono hX.size))) HG19.out HBL9.out (hSB9.call (hX.trans (hS.mono hX.size)))).mono ?_
              rintro e8 y8 ⟨rfl, hb8⟩
              refine Onward.on (hS.trans (hb8.mono hS.size)) (fun hS2 => ?_)
              clear hS
              have hS := hS2
              clear hS2
              try simp only [Act.put, List.getElem_toArray, List.getElem_cons_succ, List.getElem_cons_zero, List.setIfInBounds_toArray, List.set_cons_zero, List.set_cons_succ]
              refine AnyG.takeC (i := 9) (v := ?_) rfl (by kernel_rfl) (fun _ _ _ h => h) rfl ?_ hS ?_
              rotate_left
              · (intro w' hSw; (try dsimp only at hSw); go_simp; try with_reducible rfl)
              try simp only [Act.put, List.getElem_toArray, List.getElem_cons_succ, List.getElem_cons_zero, List.setIfInBounds_toArray, List.set_cons_zero, List.set_cons_succ]
              refine AnyG.takeC (i := 10) (v := ?_) rfl (by kernel_rfl) (fun _ _ _ h => h) rfl ?_ hS ?_
              rotate_left
              · (intro w' hSw; (try dsimp only at hSw); go_simp; try with_reducible rfl)
              try simp only [Act.put, List.getElem_toArray, List.getElem_cons_succ, List.getElem_cons_zero, List.setIfInBounds_toArray, List.set_cons_zero, List.set_cons_succ]
              refine AnyG.takeC (i := 11) (v := ?_) rfl (by kernel_rfl) (fun _ _ _ h => h) rfl ?_ hS ?_
              rotate_left
              · (intro w' hSw; (try dsimp only at hSw); go_simp; try with_reducible rfl)
              try simp only [Act.put, List.getElem_toArray, List.getElem_cons_succ, List.getElem_cons_zero, List.setIfInBounds_toArray, List.set_cons_zero, List.set_cons_succ]
              refine AnyG.takeC (i := 12) (v := ?_) rfl (by kernel_rfl) (fun _ _ _ h => h) rfl ?_ hS ?_
              rotate_left
              · (intro w' hSw; (try dsimp only at hSw); go_simp; try with_reducible rfl)
              try simp only [Act.put, List.getElem_toArray, List.getElem_cons_succ, List.getElem_cons_zero, List.setIfInBounds_toArray, List.set_cons_zero, List.set_cons_succ]
              refine AnyG.takeC (i := 13) (v := ?_) rfl (by kernel_rfl) (fun _ _ _ h => h) rfl ?_ hS ?_
              rotate_left
              · (intro w' hSw; (try dsimp only at hSw); go_simp; try with_reducible rfl)
              try simp only [Act.put, List.getElem_toArray, List.getElem_cons_succ, List.getElem_cons_zero, List.setIfInBounds_toArray, List.set_cons_zero, List.set_cons_succ]
              refine AnyG.takeC (i := 14) (v := ?_) rfl (by kernel_rfl) (fun _ _ _ h => h) rfl ?_ hS ?_
              rotate_left
              · (intro w' hSw; (try dsimp only at hSw); go_simp; try with_reducible rfl)
              try simp only [Act.put, List.getElem_toArray, List.getElem_cons_succ, List.getElem_cons_zero, List.setIfInBounds_toArray, List.set_cons_zero, List.set_cons_succ]
              refine AnyG.takeC (i := 15) (v := ?_) rfl (by kernel_rfl) (fun _ _ _ h => h) rfl ?_ hS ?_
              rotate_left
              · (intro w' hSw; (try dsimp only at hSw); go_simp; try with_reducible rfl)
              try simp only [Act.put, List.getElem_toArray, List.getElem_cons_succ, List.getElem_cons_zero, List.setIfInBounds_toArray, List.set_cons_zero, List.set_cons_succ]
              refine AnyG.done (by kernel_rfl) ?_ _
              replace hz : Below X0.heap.size X0 _ := hS
              clear hS
              go_simp
              obtain ⟨t0, t1, t2, t3, tf, tz⟩ := (kX.call hz).four
              go_upto_region 13 with (first | (go_at_call 16; refine (keeps_all XA ln9 xc YA bn9 yc o9 IA n9 ic BL9 _ (by omega) (by omega) (by omega) HLN9.out HBN9.out (hXO.call hz) HG19.out HBL9.out (hI.call hz)).mono ?_; rintro e u12 ⟨rfl, hb⟩; replace hz := hz.trans (hb.mono hz.size)) | fail)
              clear t0 t1 t2 t3 tf tz hb
              go_wp2_with fail
              refine AnyG.startC (by kernel_rfl) ?_
              refine AnyG.takeP (i := 0) (v := ?_) rfl (by kernel_rfl) (fun _ _ _ h => h) rfl ?_ ?_
              rotate_left
              · (intro w'; go_simp; try with_reducible rfl)
              try simp only [Act.put, List.getElem_toArray, List.getElem_cons_succ, List.getElem_cons_zero, List.setIfInBounds_toArray, List.set_cons_zero, List.set_cons_succ]
              refine AnyG.takeP (i := 1) (v := ?_) rfl (by kernel_rfl) (fun _ _ _ h => h) rfl ?_ ?_
              rotate_left
              · (intro w'; go_simp; try with_reducible rfl)
              try simp only [Act.put, List.getElem_toArray, List.getElem_cons_succ, List.getElem_cons_zero, List.setIfInBounds_toArray, List.set_cons_zero, List.set_cons_succ]
              refine AnyG.takeP (i := 2) (v := ?_) rfl (by kernel_rfl) (fun _ _ _ h => h) rfl ?_ ?_
              rotate_left
              · (intro w'; go_simp; try with_reducible rfl)
              try simp only [Act.put, List.getElem_toArray, List.getElem_cons_succ, List.getElem_cons_zero, List.setIfInBounds_toArray, List.set_cons_zero, List.set_cons_succ]
              refine AnyG.takeP (i := 4) (v := ?_) rfl (by kernel_rfl) (fun _ _ _ h => h) rfl ?_ ?_
              rotate_left
              · (intro w'; go_simp; try with_reducible rfl)
              try simp only [Act.put, List.getElem_toArray, List.getElem_cons_succ, List.getElem_cons_zero, List.setIfInBounds_toArray, List.set_cons_zero, List.set_cons_succ]
              refine AnyG.takeP (i := 5) (v := ?_) rfl (by kernel_rfl) (fun _ _ _ h => h) rfl ?_ ?_
              rotate_left
              · (intro w'; go_simp; try with_reducible rfl)
              try simp only [Act.put, List.getElem_toArray, List.getElem_cons_succ, List.getElem_cons_zero, List.setIfInBounds_toArray, List.set_cons_zero, List.set_cons_succ]
              refine AnyG.takeP (i := 6) (v := ?_) rfl (by kernel_rfl) (fun _ _ _ h => h) rfl ?_ ?_
              rotate_left
              · (intro w'; go_simp; try with_reducible rfl)
              try simp only [Act.put, List.getElem_toArray, List.getElem_cons_succ, List.getElem_cons_zero, List.setIfInBounds_toArray, List.set_cons_zero, List.set_cons_succ]
              refine AnyG.enter (fun w' : World => Below X0.heap.size X0 w') (fun i => true) ?_
              have hS : (fun w' : World => Below X0.heap.size X0 w') (World.drew _) := hz.drew
              refine AnyG.takeC (i := 3) (v := ?_) rfl (by kernel_rfl) (fun _ _ _ h => h) rfl ?_ hS ?_
              rotate_left
              · (intro w' hSw; (try dsimp only at hSw); obtain ⟨q0, q1, q2, q3⟩ := HQ39.out _ (hX.trans (hSw.mono hX.size)); go_simp; try with_reducible rfl)
              try simp only [Act.put, List.getElem_toArray, List.getElem_cons_succ, List.getElem_cons_zero, List.setIfInBounds_toArray, List.set_cons_zero, List.set_cons_succ]
              refine AnyG.takeC (i := 7) (v := ?_) rfl (by kernel_rfl) (fun _ _ _ h => h) rfl ?_ hS ?_
              rotate_left
              · (intro w' hSw; (try dsimp only at hSw); have r0 := HQ45.out _ (hX.trans (hSw.mono hX.size)); go_simp; try with_reducible rfl)
              try simp only [Act.put, List.getElem_toArray, List.getElem_cons_succ, List.getElem_cons_zero, List.setIfInBounds_toArray, List.set_cons_zero, List.set_cons_succ]
              refine AnyG.one (i := 8) (by kernel_rfl) rfl rfl ?_
              go_simp
              refine (refKeeps_all LA9 ln9 lc9 BA9 bn9 bc9 o9 SA9 n9 sc9 BL9 _ (by omega) (by omega) (by omega) HLN9.out HBN9.out (hO9.call (hX.trans (hS.mono hX.size))) HG19.out HBL9.out (hSB9.call (hX.trans (hS.mono hX.size)))).mono ?_
              rintro e8 y8 ⟨rfl, hb8⟩
              refine Onward.on (hS.trans (hb8.mono hS.size)) (fun hS2 => ?_)
              clear hS
              have hS := hS2
              clear hS2
              try simp only [Act.put, List.getElem_toArray, List.getElem_cons_succ, List.getElem_cons_zero, List.setIfInBounds_toArray, List.set_cons_zero, List.set_cons_succ]
              refine AnyG.takeC (i := 9) (v := ?_) rfl (by kernel_rfl) (fun _ _ _ h => h) rfl ?_ hS ?_
              rotate_left
              · (intro w' hSw; (try dsimp only at hSw); go_simp; try with_reducible rfl)
              try simp only [Act.put, List.getElem_toArray, List.getElem_cons_succ, List.getElem_cons_zero, List.setIfInBounds_toArray, List.set_cons_zero, List.set_cons_succ]
              refine AnyG.takeC (i := 10) (v := ?_) rfl (by kernel_rfl) (fun _ _ _ h => h) rfl ?_ hS ?_
              rotate_left
              · (intro w' hSw; (try dsimp only at hSw); go_simp; try with_reducible rfl)
              try simp only [Act.put, List.getElem_toArray, List.getElem_cons_succ, List.getElem_cons_zero, List.setIfInBounds_toArray, List.set_cons_zero, List.set_cons_succ]
              refine AnyG.takeC (i := 11) (v := ?_) rfl (by kernel_rfl) (fun _ _ _ h => h) rfl ?_ hS ?_
              rotate_left
              · (intro w' hSw; (try dsimp only at hSw); go_simp; try with_reducible rfl)
              try simp only [Act.put, List.getElem_toArray, List.getElem_cons_succ, List.getElem_cons_zero, List.setIfInBounds_toArray, List.set_cons_zero, List.set_cons_succ]
              refine AnyG.takeC (i := 12) (v := ?_) rfl (by kernel_rfl) (fun _ _ _ h => h) rfl ?_ hS ?_
              rotate_left
              · (intro w' hSw; (try dsimp only at hSw); go_simp; try with_reducible rfl)
              try simp only [Act.put, List.getElem_toArray, List.getElem_cons_succ, List.getElem_cons_zero, List.setIfInBounds_toArray, List.set_cons_zero, List.set_cons_succ]
              refine AnyG.takeC (i := 13) (v := ?_) rfl (by kernel_rfl) (fun _ _ _ h => h) rfl ?_ hS ?_
              rotate_left
              · (intro w' hSw; (try dsimp only at hSw); go_simp; try with_reducible rfl)
              try simp only [Act.put, List.getElem_toArray, List.getElem_cons_succ, List.getElem_cons_zero, List.setIfInBounds_toArray, List.set_cons_zero, List.set_cons_succ]
              refine AnyG.done (by kernel_rfl) ?_ _
              replace hz : Below X0.heap.size X0 _ := hS
              clear hS
              go_simp
              go_wp2_with fail
              refine AnyG.startC (by kernel_rfl) ?_
              refine AnyG.takeP (i := 2) (v := ?_) rfl (by kernel_rfl) (fun _ _ _ h => h) rfl ?_ ?_
              rotate_left
              · (intro w'; go_simp; try with_reducible rfl)
              try simp only [Act.put, List.getElem_toArray, List.getElem_cons_succ, List.getElem_cons_zero, List.setIfInBounds_toArray, List.set_cons_zero, List.set_cons_succ]
              refine AnyG.takeP (i := 3) (v := ?_) rfl (by kernel_rfl) (fun _ _ _ h => h) rfl ?_ ?_
              rotate_left
              · (intro w'; go_simp; try with_reducible rfl)
              try simp only [Act.put, List.getElem_toArray, List.getElem_cons_succ, List.getElem_cons_zero, List.setIfInBounds_toArray, List.set_cons_zero, List.set_cons_succ]
              refine AnyG.takeP (i := 4) (v := ?_) rfl (by kernel_rfl) (fun _ _ _ h => h) rfl ?_ ?_
              rotate_left
              · (intro w'; go_simp; try with_reducible rfl)
              try simp only [Act.put, List.getElem_toArray, List.getElem_cons_succ, List.getElem_cons_zero, List.setIfInBounds_toArray, List.set_cons_zero, List.set_cons_succ]
              refine AnyG.enter (fun w' : World => Below X0.heap.size X0 w') (fun i => true) ?_
              have hS : (fun w' : World => Below X0.heap.size X0 w') (World.drew _) := hz.drew
              refine AnyG.takeC (i := 0) (v := ?_) rfl (by kernel_rfl) (fun _ _ _ h => h) rfl ?_ hS ?_
              rotate_left
              · (intro w' hSw; (try dsimp only at hSw); obtain ⟨t0, t1, t2, t3, tf, tz⟩ := (kX.call hSw).four; go_simp; try with_reducible rfl)
              try simp only [Act.put, List.getElem_toArray, List.getElem_cons_succ, List.getElem_cons_zero, List.setIfInBounds_toArray, List.set_cons_zero, List.set_cons_succ]
              refine AnyG.takeC (i := 5) (v := ?_) rfl (by kernel_rfl) (fun _ _ _ h => h) rfl ?_ hS ?_
              rotate_left
              · (intro w' hSw; (try dsimp only at hSw); obtain ⟨q0, q1, q2, q3⟩ := HQ39.out _ (hX.trans (hSw.mono hX.size)); go_simp; try with_reducible rfl)
              try simp only [Act.put, List.getElem_toArray, List.getElem_cons_succ, List.getElem_cons_zero, List.setIfInBounds_toArray, List.set_cons_zero, List.set_cons_succ]
              refine AnyG.one (i := 1) (by kernel_rfl) rfl rfl ?_
              go_simp
              refine (check_any XA ln9 xc o9.le o9.mo YA bn9 yc o9 _ (by omega) (by omega) HLN9.out HBN9.out rfl rfl (hXO.call hS) (fun b hb => by have := HG19.out b hb; omega)).mono ?_
              rintro e1 y1 ⟨rfl, hb1⟩
              refine Onward.on (hS.trans (hb1.mono hS.size)) (fun hS2 => ?_)
              clear hS
              have hS := hS2
              clear hS2
              try simp only [Act.put, List.getElem_toArray, List.getElem_cons_succ, List.getElem_cons_zero, List.setIfInBounds_toArray, List.set_cons_zero, List.set_cons_succ]
              refine AnyG.one (i := 6) (by kernel_rfl) rfl rfl ?_
              go_simp
              refine (refCheck_any LA9 ln9 lc9 BA9 bn9 bc9 o9 _ (by omega) (by omega) HLN9.out HBN9.out (hO9.call (hX.trans (hS.mono hX.size))) HG19.out).mono ?_
              rintro e6 y6 ⟨rfl, hb6⟩
              refine Onward.on (hS.trans (hb6.mono hS.size)) (fun hS2 => ?_)
              clear hS
              have hS := hS2
              clear hS2
              try simp only [Act.put, List.getElem_toArray, List.getElem_cons_succ, List.getElem_cons_zero, List.setIfInBounds_toArray, List.set_cons_zero, List.set_cons_succ]
              refine AnyG.takeC (i := 7) (v := ?_) rfl (by kernel_rfl) (fun _ _ _ h => h) rfl ?_ hS ?_
              rotate_left
              · (intro w' hSw; (try dsimp only at hSw); go_simp; try with_reducible rfl)
              try simp only [Act.put, List.getElem_toArray, List.getElem_cons_succ, List.getElem_cons_zero, List.setIfInBounds_toArray, List.set_cons_zero, List.set_cons_succ]
              refine AnyG.takeC (i := 8) (v := ?_) rfl (by kernel_rfl) (fun _ _ _ h => h) rfl ?_ hS ?_
              rotate_left
              · (intro w' hSw; (try dsimp only at hSw); go_simp; try with_reducible rfl)
              try simp only [Act.put, List.getElem_toArray, List.getElem_cons_succ, List.getElem_cons_zero, List.setIfInBounds_toArray, List.set_cons_zero, List.set_cons_succ]
              refine AnyG.takeGC (i := 9) (v := ?_) rfl (by kernel_rfl) (fun _ _ _ h => h) (by first | (simp [Region.wanted, yielded]; done) | simp [Region.wanted, yielded, undef]) ?_ hS ?_
              rotate_left
              · (intro w' hSw; (try dsimp only at hSw); go_simp; try with_reducible rfl)
              try simp only [Act.put, List.getElem_toArray, List.getElem_cons_succ, List.getElem_cons_zero, List.setIfInBounds_toArray, List.set_cons_zero, List.set_cons_succ]
              refine AnyG.takeGC (i := 10) (v := ?_) rfl (by kernel_rfl) (fun _ _ _ h => h) (by first | (simp [Region.wanted, yielded]; done) | simp [Region.wanted, yielded, undef]) ?_ hS ?_
              rotate_left
              · (intro w' hSw; (try dsimp only at hSw); go_simp; try with_reducible rfl)
              try simp only [Act.put, List.getElem_toArray, List.getElem_cons_succ, List.getElem_cons_zero, List.setIfInBounds_toArray, List.set_cons_zero, List.set_cons_succ]
              refine AnyG.takeGC (i := 11) (v := ?_) rfl (by kernel_rfl) (fun _ _ _ h => h) (by first | (simp [Region.wanted, yielded]; done) | simp [Region.wanted, yielded, undef]) ?_ hS ?_
              rotate_left
              · (intro w' hSw; (try dsimp only at hSw); go_simp; try with_reducible rfl)
              try simp only [Act.put, List.getElem_toArray, List.getElem_cons_succ, List.getElem_cons_zero, List.setIfInBounds_toArray, List.set_cons_zero, List.set_cons_succ]
              refine AnyG.takeC (i := 12) (v := ?_) rfl (by kernel_rfl) (fun _ _ _ h => h) rfl ?_ hS ?_
              rotate_left
              · (intro w' hSw; (try dsimp only at hSw); go_simp; try with_reducible rfl)
              try simp only [Act.put, List.getElem_toArray, List.getElem_cons_succ, List.getElem_cons_zero, List.setIfInBounds_toArray, List.set_cons_zero, List.set_cons_succ]
              refine AnyG.takeC (i := 13) (v := ?_) rfl (by kernel_rfl) (fun _ _ _ h => h) rfl ?_ hS ?_
              rotate_left
              · (intro w' hSw; (try dsimp only at hSw); go_simp; try with_reducible rfl)
              try simp only [Act.put, List.getElem_toArray, List.getElem_cons_succ, List.getElem_cons_zero, List.setIfInBounds_toArray, List.set_cons_zero, List.set_cons_succ]
              refine AnyG.takeGC (i := 14) (v := ?_) rfl (by kernel_rfl) (fun _ _ _ h => h) (by first | (simp [Region.wanted, yielded]; done) | simp [Region.wanted, yielded, undef]) ?_ hS ?_
              rotate_left
              · (intro w' hSw; (try dsimp only at hSw); go_simp; try with_reducible rfl)
              try simp only [Act.put, List.getElem_toArray, List.getElem_cons_succ, List.getElem_cons_zero, List.setIfInBounds_toArray, List.set_cons_zero, List.set_cons_succ]
              refine AnyG.takeGC (i := 15) (v := ?_) rfl (by kernel_rfl) (fun _ _ _ h => h) (by first | (simp [Region.wanted, yielded]; done) | simp [Region.wanted, yielded, undef]) ?_ hS ?_
              rotate_left
              · (intro w' hSw; (try dsimp only at hSw); go_simp; try with_reducible rfl)
              try simp only [Act.put, List.getElem_toArray, List.getElem_cons_succ, List.getElem_cons_zero, List.setIfInBounds_toArray, List.set_cons_zero, List.set_cons_succ]
              refine AnyG.takeGC (i := 16) (v := ?_) rfl (by kernel_rfl) (fun _ _ _ h => h) (by first | (simp [Region.wanted, yielded]; done) | simp [Region.wanted, yielded, undef]) ?_ hS ?_
              rotate_left
              · (intro w' hSw; (try dsimp only at hSw); go_simp; try with_reducible rfl)
              try simp only [Act.put, List.getElem_toArray, List.getElem_cons_succ, List.getElem_cons_zero, List.setIfInBounds_toArray, List.set_cons_zero, List.set_cons_succ]
              refine AnyG.takeC (i := 17) (v := ?_) rfl (by kernel_rfl) (fun _ _ _ h => h) rfl ?_ hS ?_
              rotate_left
              · (intro w' hSw; (try dsimp only at hSw); go_simp; try with_reducible rfl)
              try simp only [Act.put, List.getElem_toArray, List.getElem_cons_succ, List.getElem_cons_zero, List.setIfInBounds_toArray, List.set_cons_zero, List.set_cons_succ]
              refine AnyG.takeC (i := 18) (v := ?_) rfl (by kernel_rfl) (fun _ _ _ h => h) rfl ?_ hS ?_
              rotate_left
              · (intro w' hSw; (try dsimp only at hSw); go_simp; try with_reducible rfl)
              try simp only [Act.put, List.getElem_toArray, List.getElem_cons_succ, List.getElem_cons_zero, List.setIfInBounds_toArray, List.set_cons_zero, List.set_cons_succ]
              refine AnyG.takeGC (i := 19) (v := ?_) rfl (by kernel_rfl) (fun _ _ _ h => h) (by first | (simp [Region.wanted, yielded]; done) | simp [Region.wanted, yielded, undef]) ?_ hS ?_
              rotate_left
              · (intro w' hSw; (try dsimp only at hSw); go_simp; try with_reducible rfl)
              try simp only [Act.put, List.getElem_toArray, List.getElem_cons_succ, List.getElem_cons_zero, List.setIfInBounds_toArray, List.set_cons_zero, List.set_cons_succ]
              refine AnyG.takeGC (i := 20) (v := ?_) rfl (by kernel_rfl) (fun _ _ _ h => h) (by first | (simp [Region.wanted, yielded]; done) | simp [Region.wanted, yielded, undef]) ?_ hS ?_
              rotate_left
              · (intro w' hSw; (try dsimp only at hSw); go_simp; try with_reducible rfl)
              try simp only [Act.put, List.getElem_toArray, List.getElem_cons_succ, List.getElem_cons_zero, List.setIfInBounds_toArray, List.set_cons_zero, List.set_cons_succ]
              refine AnyG.takeGC (i := 21) (v := ?_) rfl (by kernel_rfl) (fun _ _ _ h => h) (by first | (simp [Region.wanted, yielded]; done) | simp [Region.wanted, yielded, undef]) ?_ hS ?_
              rotate_left
              · (intro w' hSw; (try dsimp only at hSw); go_simp; try with_reducible rfl)
              try simp only [Act.put, List.getElem_toArray, List.getElem_cons_succ, List.getElem_cons_zero, List.setIfInBounds_toArray, List.set_cons_zero, List.set_cons_succ]
              refine AnyG.takeC (i := 22) (v := ?_) rfl (by kernel_rfl) (fun _ _ _ h => h) rfl ?_ hS ?_
              rotate_left
              · (intro w' hSw; (try dsimp only at hSw); go_simp; try with_reducible rfl)
              try simp only [Act.put, List.getElem_toArray, List.getElem_cons_succ, List.getElem_cons_zero, List.setIfInBounds_toArray, List.set_cons_zero, List.set_cons_succ]
              refine AnyG.takeC (i := 23) (v := ?_) rfl (by kernel_rfl) (fun _ _ _ h => h) rfl ?_ hS ?_
              rotate_left
              · (intro w' hSw; (try dsimp only at hSw); go_simp; try with_reducible rfl)
              try simp only [Act.put, List.getElem_toArray, List.getElem_cons_succ, List.getElem_cons_zero, List.setIfInBounds_toArray, List.set_cons_zero, List.set_cons_succ]
              refine AnyG.takeGC (i := 24) (v := ?_) rfl (by kernel_rfl) (fun _ _ _ h => h) (by first | (simp [Region.wanted, yielded]; done) | simp [Region.wanted, yielded, undef]) ?_ hS ?_
              rotate_left
              · (intro w' hSw; (try dsimp only at hSw); go_simp; try with_reducible rfl)
              try simp only [Act.put, List.getElem_toArray, List.getElem_cons_succ, List.getElem_cons_zero, List.setIfInBounds_toArray, List.set_cons_zero, List.set_cons_succ]
              refine AnyG.takeGC (i := 25) (v := ?_) rfl (by kernel_rfl) (fun _ _ _ h => h) (by first | (simp [Region.wanted, yielded]; done) | simp [Region.wanted, yielded, undef]) ?_ hS ?_
              rotate_left
              · (intro w' hSw; (try dsimp only at hSw); go_simp; try with_reducible rfl)
              try simp only [Act.put, List.getElem_toArray, List.getElem_cons_succ, List.getElem_cons_zero, List.setIfInBounds_toArray, List.set_cons_zero, List.set_cons_succ]
              refine AnyG.takeGC (i := 26) (v := ?_) rfl (by kernel_rfl) (fun _ _ _ h => h) (by first | (simp [Region.wanted, yielded]; done) | simp [Region.wanted, yielded, undef]) ?_ hS ?_
              rotate_left
              · (intro w' hSw; (try dsimp only at hSw); go_simp; try with_reducible rfl)
              try simp only [Act.put, List.getElem_toArray, List.getElem_cons_succ, List.getElem_cons_zero, List.setIfInBounds_toArray, List.set_cons_zero, List.set_cons_succ]
              refine AnyG.takeC (i := 27) (v := ?_) rfl (by kernel_rfl) (fun _ _ _ h => h) rfl ?_ hS ?_
              rotate_left
              · (intro w' hSw; (try dsimp only at hSw); go_simp; try with_reducible rfl)
              try simp only [Act.put, List.getElem_toArray, List.getElem_cons_succ, List.getElem_cons_zero, List.setIfInBounds_toArray, List.set_cons_zero, List.set_cons_succ]
              refine AnyG.takeC (i := 28) (v := ?_) rfl (by kernel_rfl) (fun _ _ _ h => h) rfl ?_ hS ?_
              rotate_left
              · (intro w' hSw; (try dsimp only at hSw); go_simp; try with_reducible rfl)
              try simp only [Act.put, List.getElem_toArray, List.getElem_cons_succ, List.getElem_cons_zero, List.setIfInBounds_toArray, List.set_cons_zero, List.set_cons_succ]
              refine AnyG.takeGC (i := 29) (v := ?_) rfl (by kernel_rfl) (fun _ _ _ h => h) (by first | (simp [Region.wanted, yielded]; done) | simp [Region.wanted, yielded, undef]) ?_ hS ?_
              rotate_left
              · (intro w' hSw; (try dsimp only at hSw); go_simp; try with_reducible rfl)
              try simp only [Act.put, List.getElem_toArray, List.getElem_cons_succ, List.getElem_cons_zero, List.setIfInBounds_toArray, List.set_cons_zero, List.set_cons_succ]
              refine AnyG.takeGC (i := 30) (v := ?_) rfl (by kernel_rfl) (fun _ _ _ h => h) (by first | (simp [Region.wanted, yielded]; done) | simp [Region.wanted, yielded, undef]) ?_ hS ?_
              rotate_left
              · (intro w' hSw; (try dsimp only at hSw); go_simp; try with_reducible rfl)
              try simp only [Act.put, List.getElem_toArray, List.getElem_cons_succ, List.getElem_cons_zero, List.setIfInBounds_toArray, List.set_cons_zero, List.set_cons_succ]
              refine AnyG.takeGC (i := 31) (v := ?_) rfl (by kernel_rfl) (fun _ _ _ h => h) (by first | (simp [Region.wanted, yielded]; done) | simp [Region.wanted, yielded, undef]) ?_ hS ?_
              rotate_left
              · (intro w' hSw; (try dsimp only at hSw); go_simp; try with_reducible rfl)
              try simp only [Act.put, List.getElem_toArray, List.getElem_cons_succ, List.getElem_cons_zero, List.setIfInBounds_toArray, List.set_cons_zero, List.set_cons_succ]
              refine AnyG.takeC (i := 32) (v := ?_) rfl (by kernel_rfl) (fun _ _ _ h => h) rfl ?_ hS ?_
              rotate_left
              · (intro w' hSw; (try dsimp only at hSw); go_simp; try with_reducible rfl)
              try simp only [Act.put, List.getElem_toArray, List.getElem_cons_succ, List.getElem_cons_zero, List.setIfInBounds_toArray, List.set_cons_zero, List.set_cons_succ]
              refine AnyG.takeC (i := 33) (v := ?_) rfl (by kernel_rfl) (fun _ _ _ h => h) rfl ?_ hS ?_
              rotate_left
              · (intro w' hSw; (try dsimp only at hSw); go_simp; try with_reducible rfl)
              try simp only [Act.put, List.getElem_toArray, List.getElem_cons_succ, List.getElem_cons_zero, List.setIfInBounds_toArray, List.set_cons_zero, List.set_cons_succ]
              refine AnyG.takeGC (i := 34) (v := ?_) rfl (by kernel_rfl) (fun _ _ _ h => h) (by first | (simp [Region.wanted, yielded]; done) | simp [Region.wanted, yielded, undef]) ?_ hS ?_
              rotate_left
              · (intro w' hSw; (try dsimp only at hSw); obtain ⟨t0, t1, t2, t3, tf, tz⟩ := (kX.call hSw).four; go_simp; try with_reducible rfl)
              try simp only [Act.put, List.getElem_toArray, List.getElem_cons_succ, List.getElem_cons_zero, List.setIfInBounds_toArray, List.set_cons_zero, List.set_cons_succ]
              refine AnyG.takeGC (i := 35) (v := ?_) rfl (by kernel_rfl) (fun _ _ _ h => h) (by first | (simp [Region.wanted, yielded]; done) | simp [Region.wanted, yielded, undef]) ?_ hS ?_
              rotate_left
              · (intro w' hSw; (try dsimp only at hSw); go_simp; try with_reducible rfl)
              try simp only [Act.put, List.getElem_toArray, List.getElem_cons_succ, List.getElem_cons_zero, List.setIfInBounds_toArray, List.set_cons_zero, List.set_cons_succ]
              refine AnyG.takeGC (i := 36) (v := ?_) rfl (by kernel_rfl) (fun _ _ _ h => h) (by first | (simp [Region.wanted, yielded]; done) | simp [Region.wanted, yielded, undef]) ?_ hS ?_
              rotate_left
              · (intro w' hSw; (try dsimp only at hSw); go_simp; try with_reducible rfl)
              try simp only [Act.put, List.getElem_toArray, List.getElem_cons_succ, List.getElem_cons_zero, List.setIfInBounds_toArray, List.set_cons_zero, List.set_cons_succ]
              refine AnyG.takeGC (i := 37) (v := ?_) rfl (by kernel_rfl) (fun _ _ _ h => h) (by first | (simp [Region.wanted, yielded]; done) | simp [Region.wanted, yielded, undef]) ?_ hS ?_
              rotate_left
              · (intro w' hSw; (try dsimp only at hSw); go_simp; try with_reducible rfl)
              try simp only [Act.put, List.getElem_toArray, List.getElem_cons_succ, List.getElem_cons_zero, List.setIfInBounds_toArray, List.set_cons_zero, List.set_cons_succ]
              refine AnyG.takeGC (i := 38) (v := ?_) rfl (by kernel_rfl) (fun _ _ _ h => h) (by first | (simp [Region.wanted, yielded]; done) | simp [Region.wanted, yielded, undef]) ?_ hS ?_
              rotate_left
              · (intro w' hSw; (try dsimp only at hSw); obtain ⟨q0, q1, q2, q3⟩ := HQ39.out _ (hX.trans (hSw.mono hX.size)); go_simp; try with_reducible rfl)
              try simp only [Act.put, List.getElem_toArray, List.getElem_cons_succ, List.getElem_cons_zero, List.setIfInBounds_toArray, List.set_cons_zero, List.set_cons_succ]
              refine AnyG.oneC (i := 39) (by kernel_rfl) rfl (by first | (simp [Region.wanted, yielded]; done) | simp [Region.wanted, yielded, undef]) ?_
              go_simp
              refine (equalOrders_same XA ln9 xc YA bn9 yc LA9 lc9 BA9 bc9 o9 _ (by omega) (by omega) HLN9.out HBN9.out (hXO.call hS) (hO9.call (hX.trans (hS.mono hX.size))) HG19.out).mono ?_
              rintro e39 y39 ⟨rfl, hb39⟩
              refine Onward.on (hS.trans (hb39.mono hS.size)) (fun hS2 => ?_)
              clear hS
              have hS := hS2
              clear hS2
              try simp only [Act.put, List.getElem_toArray, List.getElem_cons_succ, List.getElem_cons_zero, List.setIfInBounds_toArray, List.set_cons_zero, List.set_cons_succ]
              refine AnyG.takeGC (i := 40) (v := ?_) rfl (by kernel_rfl) (fun _ _ _ h => h) (by first | (simp [Region.wanted, yielded]; done) | simp [Region.wanted, yielded, undef]) ?_ hS ?_
              rotate_left
              · (intro w' hSw; (try dsimp only at hSw); go_simp; try with_reducible rfl)
              try simp only [Act.put, List.getElem_toArray, List.getElem_cons_succ, List.getElem_cons_zero, List.setIfInBounds_toArray, List.set_cons_zero, List.set_cons_succ]
              refine AnyG.takeC (i := 41) (v := ?_) rfl (by kernel_rfl) (fun _ _ _ h => h) rfl ?_ hS ?_
              rotate_left
              · (intro w' hSw; (try dsimp only at hSw); go_simp; try with_reducible rfl)
              try simp only [Act.put, List.getElem_toArray, List.getElem_cons_succ, List.getElem_cons_zero, List.setIfInBounds_toArray, List.set_cons_zero, List.set_cons_succ]
              refine AnyG.takeC (i := 42) (v := ?_) rfl (by kernel_rfl) (fun _ _ _ h => h) rfl ?_ hS ?_
              rotate_left
              · (intro w' hSw; (try dsimp only at hSw); go_simp; try with_reducible rfl)
              try simp only [Act.put, List.getElem_toArray, List.getElem_cons_succ, List.getElem_cons_zero, List.setIfInBounds_toArray, List.set_cons_zero, List.set_cons_succ]
              refine AnyG.takeGC (i := 43) (v := ?_) rfl (by kernel_rfl) (fun _ _ _ h => h) (by first | (simp [Region.wanted, yielded]; done) | simp [Region.wanted, yielded, undef]) ?_ hS ?_
              rotate_left
              · (intro w' hSw; (try dsimp only at hSw); go_simp; try with_reducible rfl)
              try simp only [Act.put, List.getElem_toArray, List.getElem_cons_succ, List.getElem_cons_zero, List.setIfInBounds_toArray, List.set_cons_zero, List.set_cons_succ]
              refine AnyG.takeGC (i := 44) (v := ?_) rfl (by kernel_rfl) (fun _ _ _ h => h) (by first | (simp [Region.wanted, yielded]; done) | simp [Region.wanted, yielded, undef]) ?_ hS ?_
              rotate_left
              · (intro w' hSw; (try dsimp only at hSw); go_simp; try with_reducible rfl)
              try simp only [Act.put, List.getElem_toArray, List.getElem_cons_succ, List.getElem_cons_zero, List.setIfInBounds_toArray, List.set_cons_zero, List.set_cons_succ]
              refine AnyG.takeGC (i := 45) (v := ?_) rfl (by kernel_rfl) (fun _ _ _ h => h) (by first | (simp [Region.wanted, yielded]; done) | simp [Region.wanted, yielded, undef]) ?_ hS ?_
              rotate_left
              · (intro w' hSw; (try dsimp only at hSw); go_simp; try with_reducible rfl)
              try simp only [Act.put, List.getElem_toArray, List.getElem_cons_succ, List.getElem_cons_zero, List.setIfInBounds_toArray, List.set_cons_zero, List.set_cons_succ]
              refine AnyG.takeGC (i := 46) (v := ?_) rfl (by kernel_rfl) (fun _ _ _ h => h) (by first | (simp [Region.wanted, yielded]; done) | simp [Region.wanted, yielded, undef]) ?_ hS ?_
              rotate_left
              · (intro w' hSw; (try dsimp only at hSw); go_simp; try with_reducible rfl)
              try simp only [Act.put, List.getElem_toArray, List.getElem_cons_succ, List.getElem_cons_zero, List.setIfInBounds_toArray, List.set_cons_zero, List.set_cons_succ]
              refine AnyG.takeGC (i := 47) (v := ?_) rfl (by kernel_rfl) (fun _ _ _ h => h) (by first | (simp [Region.wanted, yielded]; done) | simp [Region.wanted, yielded, undef]) ?_ hS ?_
              rotate_left
              · (intro w' hSw; (try dsimp only at hSw); have r0 := HQ45.out _ (hX.trans (hSw.mono hX.size)); go_simp; try with_reducible rfl)
              try simp only [Act.put, List.getElem_toArray, List.getElem_cons_succ, List.getElem_cons_zero, List.setIfInBounds_toArray, List.set_cons_zero, List.set_cons_succ]
              refine AnyG.oneC (i := 48) (by kernel_rfl) rfl (by first | (simp [Region.wanted, yielded]; done) | simp [Region.wanted, yielded, undef]) ?_
              go_simp
              refine (equalInts_any IA n9 ic SA9 n9 sc9 BL9 BL9 _ (by omega) (by omega) HBL9.out HBL9.out (hI.call hS) (hSB9.call (hX.trans (hS.mono hX.size)))).mono ?_
              rintro e48 y48 ⟨rfl, hb48⟩
              rw [show decide (BL9 = BL9) = true by simp]
              refine Onward.on (hS.trans (hb48.mono hS.size)) (fun hS2 => ?_)
              clear hS
              have hS := hS2
              clear hS2
              try simp only [Act.put, List.getElem_toArray, List.getElem_cons_succ, List.getElem_cons_zero, List.setIfInBounds_toArray, List.set_cons_zero, List.set_cons_succ]
              refine AnyG.takeGC (i := 49) (v := ?_) rfl (by kernel_rfl) (fun _ _ _ h => h) (by first | (simp [Region.wanted, yielded]; done) | simp [Region.wanted, yielded, undef]) ?_ hS ?_
              rotate_left
              · (intro w' hSw; (try dsimp only at hSw); go_simp; try with_reducible rfl)
              try simp only [Act.put, List.getElem_toArray, List.getElem_cons_succ, List.getElem_cons_zero, List.setIfInBounds_toArray, List.set_cons_zero, List.set_cons_succ]
              refine AnyG.takeC (i := 50) (v := ?_) rfl (by kernel_rfl) (fun _ _ _ h => h) rfl ?_ hS ?_
              rotate_left
              · (intro w' hSw; (try dsimp only at hSw); go_simp; try with_reducible rfl)
              try simp only [Act.put, List.getElem_toArray, List.getElem_cons_succ, List.getElem_cons_zero, List.setIfInBounds_toArray, List.set_cons_zero, List.set_cons_succ]
              refine AnyG.done (by kernel_rfl) ?_ _
              replace hz : Below X0.heap.size X0 _ := hS
              clear hS
              go_simp
              go_wp2_with fail
              go_roundw
              case rel => exact ⟨i + 1, by go_num, by omega, hX.trans (hz.mono hX.size)⟩
              case measure => simp [intOf]; omega
          · obtain rfl : i = 3 := by omega
            go_wp2_with (first | (go_at_call 19; refine (alive_any _).mono ?_; rintro e V9 ⟨rfl, hq9⟩) | fail)
            go_ret
            have h9 := hWr.trans (hq9.mono hWr.size)
            exact ⟨rfl, B6.trans (h9.mono B6.size)⟩
end Go.Proofs.Ytmemcopfeabcgaa
