/- Prices and orders that are not valid; Round. -/
import Derived.Test.YtmemcopfeabcgaaPm
import Derived.Test.YtmemcopfeabcgaaPcM
import Derived.Test.YtmemcopfeabcgaaRc
set_option linter.unusedSimpArgs false
set_option linter.unusedVariables false
namespace Go.Proofs.Ytmemcopfeabcgaa
open Go Go.RowKit
set_option maxRecDepth 100000 in
set_option maxHeartbeats 4000000 in
theorem refPrice_any (LA : Option Addr) (ln lc : Nat) (BA : Option Addr) (bn bc : Nat) (o : Od) (p : Int) (w : World) (hln : ln ≤ 1000) (hbn : bn ≤ 1000) (hl : o.lm.length = ln) (hb' : o.bs.length = bn) (hA : OrdAt w w.heap.size LA BA o) (hG : ∀ b ∈ o.bs,b.gr.length ≤ 1000) :
  Calls Try.prog 77 #[.agg #[.slice LA ln lc,.int .i64 o.le,.int .i64 o.mo,.slice BA bn bc],.int .i64 p] w fun e w' => e = .returned (.int .i64 (ckP o p)) ∧ Below w.heap.size w w':=by
 have k1:=Bx.new w 27 #[.slice LA ln lc,.int .i64 o.le,.int .i64 o.mo,.slice BA bn bc]
 have B0:=(Below.refl w.heap.size w).alloc (Nat.le_refl _) (.cells #[.slice LA ln lc,.int .i64 o.le,.int .i64 o.mo,.slice BA bn bc] 27)
 have hA1:=hA.call B0
 obtain ⟨V,hV⟩ : ∃ V,w.alloc (.cells #[.slice LA ln lc,.int .i64 o.le,.int .i64 o.mo,.slice BA bn bc] 27) = V:=⟨_,rfl⟩
 rw [hV] at k1 B0 hA1
 have HB:=Lib.hid hb'
 have HL:=Lib.hid hl
 have HV:=Lib.hid hV
 have HGG:=Lib.hid hG
 have HGB : Hid (∀ b ∈ o.bs,b.gr.length ≤ 9223372036854775807):=Lib.hid (fun b hb => by have:=hG b hb; omega)
 clear hl hb' hV hG
 obtain ⟨E,hE⟩ : ∃ E,ckO o = E:=⟨_,rfl⟩
 obtain ⟨l0,l1,l2,l3,lf',lz⟩:=k1.four
 by_cases hz : E = 0
 ·have ev : ckP o p = if p < 0 ∨ 300000000 < p then 1 else 0:=by unfold ckP; rw [if_neg (fun h => h (by rw [hE]; exact hz))]
  subst hz
  have HE:=Lib.hid hE
  clear hE
  by_cases hp : 0 ≤ p ∧ p ≤ 300000000
  ·rw [if_neg (by omega)] at ev
   rw [ev]
   have HP:=Lib.hid hp
   clear hp ev
   go_enter Try.func77,Try.ntmps77
   go_upto_region 1 with fail
   rw [HV.out]
   go_wp2_with (first | (go_at_call 38; refine (refCheck_any LA ln lc BA bn bc o _ (by omega) (by omega) HL.out HB.out hA1 HGG.out).mono ?_; rintro e w1 ⟨rfl,hq⟩; rw [HE.out]) | (go_at_call 65; refine (from65_any p 0 300000000 _).mono ?_; rintro e w2 ⟨rfl,hq2⟩; rw [decide_eq_true HP.out]) | fail)
   go_ret
   exact ⟨rfl,B0.trans ((hq.trans (hq2.mono hq.size)).mono B0.size)⟩
  ·rw [if_pos (by omega)] at ev
   rw [ev]
   have HP:=Lib.hid hp
   clear hp ev
   go_enter Try.func77,Try.ntmps77
   go_upto_region 1 with fail
   rw [HV.out]
   go_wp2_with (first | (go_at_call 38; refine (refCheck_any LA ln lc BA bn bc o _ (by omega) (by omega) HL.out HB.out hA1 HGG.out).mono ?_; rintro e w1 ⟨rfl,hq⟩; rw [HE.out]) | (go_at_call 65; refine (from65_any p 0 300000000 _).mono ?_; rintro e w2 ⟨rfl,hq2⟩; rw [decide_eq_false HP.out]) | fail)
   go_ret
   exact ⟨rfl,B0.trans ((hq.trans (hq2.mono hq.size)).mono B0.size)⟩
 ·have ev : ckP o p = E:=by unfold ckP; rw [if_pos (by rw [hE]; exact hz),hE]
  rw [ev]
  have hne : (E == 0) = false:=by simp; exact hz
  have HE:=Lib.hid hE
  clear hE hz ev
  go_enter Try.func77,Try.ntmps77
  go_upto_region 1 with fail
  rw [HV.out]
  go_wp2_with (first | (go_at_call 38; refine (refCheck_any LA ln lc BA bn bc o _ (by omega) (by omega) HL.out HB.out hA1 HGG.out).mono ?_; rintro e w1 ⟨rfl,hq⟩; rw [HE.out]) | fail)
  go_ret
  exact ⟨rfl,B0.trans (hq.mono B0.size)⟩
set_option maxRecDepth 100000 in
set_option maxHeartbeats 4000000 in
theorem price_any (LA : Option Addr) (ln lc : Nat) (BA : Option Addr) (bn bc : Nat) (o : Od) (p : Int) (w : World) (hln : ln ≤ 1000) (hbn : bn ≤ 1000) (hl : o.lm.length = ln) (hb' : o.bs.length = bn) (hA : OrdAt w w.heap.size LA BA o) (hG : ∀ b ∈ o.bs,b.gr.length ≤ 1000) :
  Calls Try.prog 62 #[.agg #[.slice LA ln lc,.int .i64 o.le,.int .i64 o.mo,.slice BA bn bc],.int .i64 p] w fun e w' => e = .returned (.int .i64 (ckP o p)) ∧ Below w.heap.size w w':=by
 have k1:=Bx.new w 27 #[.slice LA ln lc,.int .i64 o.le,.int .i64 o.mo,.slice BA bn bc]
 have B0:=(Below.refl w.heap.size w).alloc (Nat.le_refl _) (.cells #[.slice LA ln lc,.int .i64 o.le,.int .i64 o.mo,.slice BA bn bc] 27)
 have hA1:=hA.call B0
 obtain ⟨V,hV⟩ : ∃ V,w.alloc (.cells #[.slice LA ln lc,.int .i64 o.le,.int .i64 o.mo,.slice BA bn bc] 27) = V:=⟨_,rfl⟩
 rw [hV] at k1 B0 hA1
 have HB:=Lib.hid hb'
 have HL:=Lib.hid hl
 have HV:=Lib.hid hV
 have HGG:=Lib.hid hG
 have HGB : Hid (∀ b ∈ o.bs,b.gr.length ≤ 9223372036854775807):=Lib.hid (fun b hb => by have:=hG b hb; omega)
 clear hl hb' hV hG
 obtain ⟨E,hE⟩ : ∃ E,ckO o = E:=⟨_,rfl⟩
 obtain ⟨l0,l1,l2,l3,lf',lz⟩:=k1.four
 by_cases hz : E = 0
 ·have ev : ckP o p = if p < 0 ∨ 300000000 < p then 1 else 0:=by unfold ckP; rw [if_neg (fun h => h (by rw [hE]; exact hz))]
  subst hz
  have HE:=Lib.hid hE
  clear hE
  by_cases hp : 0 ≤ p ∧ p ≤ 300000000
  ·rw [if_neg (by omega)] at ev
   rw [ev]
   have HP:=Lib.hid hp
   clear hp ev
   go_enter Try.func62,Try.ntmps62
   go_upto_region 1 with fail
   rw [HV.out]
   go_wp2_with (first | (go_at_call 37; refine (check_any LA ln lc o.le o.mo BA bn bc o _ (by omega) (by omega) HL.out HB.out rfl rfl hA1 HGB.out).mono ?_; rintro e w1 ⟨rfl,hq⟩; rw [HE.out]) | (go_at_call 81; refine (isWithin_yes _ _ _ _ HP.out).mono ?_; rintro e w2 ⟨rfl,hq2⟩) | fail)
   go_ret
   exact ⟨rfl,B0.trans ((hq.trans (hq2.mono hq.size)).mono B0.size)⟩
  ·rw [if_pos (by omega)] at ev
   rw [ev]
   have HP:=Lib.hid hp
   clear hp ev
   go_enter Try.func62,Try.ntmps62
   go_upto_region 1 with fail
   rw [HV.out]
   go_wp2_with (first | (go_at_call 37; refine (check_any LA ln lc o.le o.mo BA bn bc o _ (by omega) (by omega) HL.out HB.out rfl rfl hA1 HGB.out).mono ?_; rintro e w1 ⟨rfl,hq⟩; rw [HE.out]) | (go_at_call 81; refine (isWithin_no _ _ _ _ HP.out).mono ?_; rintro e w2 ⟨rfl,hq2⟩) | fail)
   go_ret
   exact ⟨rfl,B0.trans ((hq.trans (hq2.mono hq.size)).mono B0.size)⟩
 ·have ev : ckP o p = E:=by unfold ckP; rw [if_pos (by rw [hE]; exact hz),hE]
  rw [ev]
  have hne : (E == 0) = false:=by simp; exact hz
  have HE:=Lib.hid hE
  clear hE hz ev
  go_enter Try.func62,Try.ntmps62
  go_upto_region 1 with fail
  rw [HV.out]
  go_wp2_with (first | (go_at_call 37; refine (check_any LA ln lc o.le o.mo BA bn bc o _ (by omega) (by omega) HL.out HB.out rfl rfl hA1 HGB.out).mono ?_; rintro e w1 ⟨rfl,hq⟩; rw [HE.out]) | fail)
  go_ret
  exact ⟨rfl,B0.trans (hq.mono B0.size)⟩
set_option maxRecDepth 100000 in
set_option maxHeartbeats 4000000 in
theorem prove_bad (LA : Option Addr) (ln lc : Nat) (BA : Option Addr) (bn bc : Nat) (o : Od) (p : Int) (w : World) (hln : ln ≤ 1000) (hbn : bn ≤ 1000) (hl : o.lm.length = ln) (hb' : o.bs.length = bn) (hA : OrdAt w w.heap.size LA BA o) (hG : ∀ b ∈ o.bs,b.gr.length ≤ 1000) (hz : ckP o p ≠ 0) :
  Calls Try.prog 26 #[.agg #[.slice LA ln lc,.int .i64 o.le,.int .i64 o.mo,.slice BA bn bc],.int .i64 p] w fun e w' => e = .returned (.tuple #[.slice none 0 0,.int .i64 (ckP o p)]) ∧ Below w.heap.size w w':=by
 have k1:=Bx.new w 27 #[.slice LA ln lc,.int .i64 o.le,.int .i64 o.mo,.slice BA bn bc]
 have B0:=(Below.refl w.heap.size w).alloc (Nat.le_refl _) (.cells #[.slice LA ln lc,.int .i64 o.le,.int .i64 o.mo,.slice BA bn bc] 27)
 have hA1:=hA.call B0
 obtain ⟨V,hV⟩ : ∃ V,w.alloc (.cells #[.slice LA ln lc,.int .i64 o.le,.int .i64 o.mo,.slice BA bn bc] 27) = V:=⟨_,rfl⟩
 rw [hV] at k1 B0 hA1
 have HB:=Lib.hid hb'
 have HL:=Lib.hid hl
 have HV:=Lib.hid hV
 have HGG:=Lib.hid hG
 have HGB : Hid (∀ b ∈ o.bs,b.gr.length ≤ 9223372036854775807):=Lib.hid (fun b hb => by have:=hG b hb; omega)
 clear hl hb' hV hG
 obtain ⟨l0,l1,l2,l3,lf',lz⟩:=k1.four
 obtain ⟨E,hE⟩ : ∃ E,ckP o p = E:=⟨_,rfl⟩
 rw [hE] at hz ⊢
 have hne : (E == 0) = false:=by simp; exact hz
 have HE:=Lib.hid hE
 clear hE hz
 go_enter Try.func26,Try.ntmps26
 go_upto_region 1 with fail
 rw [HV.out]
 go_wp2_with (first | (go_at_call 62; refine (price_any LA ln lc BA bn bc o p _ hln hbn HL.out HB.out hA1 HGG.out).mono ?_; rintro e w1 ⟨rfl,hq⟩; rw [HE.out]) | fail)
 refine bodyPost_ret (v:=.tuple #[.slice none 0 0,.int .i64 E]) (by simp [results,Try.results26,go_sem]) rfl ⟨rfl,B0.trans (hq.mono B0.size)⟩
set_option maxRecDepth 100000 in
set_option maxHeartbeats 4000000 in
theorem refProve_bad (LA : Option Addr) (ln lc : Nat) (BA : Option Addr) (bn bc : Nat) (o : Od) (p : Int) (w : World) (hln : ln ≤ 1000) (hbn : bn ≤ 1000) (hl : o.lm.length = ln) (hb' : o.bs.length = bn) (hA : OrdAt w w.heap.size LA BA o) (hG : ∀ b ∈ o.bs,b.gr.length ≤ 1000) (hz : ckP o p ≠ 0) :
  Calls Try.prog 42 #[.agg #[.slice LA ln lc,.int .i64 o.le,.int .i64 o.mo,.slice BA bn bc],.int .i64 p] w fun e w' => e = .returned (.tuple #[.slice none 0 0,.int .i64 (ckP o p)]) ∧ Below w.heap.size w w':=by
 have k1:=Bx.new w 27 #[.slice LA ln lc,.int .i64 o.le,.int .i64 o.mo,.slice BA bn bc]
 have B0:=(Below.refl w.heap.size w).alloc (Nat.le_refl _) (.cells #[.slice LA ln lc,.int .i64 o.le,.int .i64 o.mo,.slice BA bn bc] 27)
 have hA1:=hA.call B0
 obtain ⟨V,hV⟩ : ∃ V,w.alloc (.cells #[.slice LA ln lc,.int .i64 o.le,.int .i64 o.mo,.slice BA bn bc] 27) = V:=⟨_,rfl⟩
 rw [hV] at k1 B0 hA1
 have HB:=Lib.hid hb'
 have HL:=Lib.hid hl
 have HV:=Lib.hid hV
 have HGG:=Lib.hid hG
 have HGB : Hid (∀ b ∈ o.bs,b.gr.length ≤ 9223372036854775807):=Lib.hid (fun b hb => by have:=hG b hb; omega)
 clear hl hb' hV hG
 obtain ⟨l0,l1,l2,l3,lf',lz⟩:=k1.four
 obtain ⟨E,hE⟩ : ∃ E,ckP o p = E:=⟨_,rfl⟩
 rw [hE] at hz ⊢
 have hne : (E == 0) = false:=by simp; exact hz
 have HE:=Lib.hid hE
 clear hE hz
 go_enter Try.func42,Try.ntmps42
 go_upto_region 1 with fail
 rw [HV.out]
 go_wp2_with (first | (go_at_call 77; refine (refPrice_any LA ln lc BA bn bc o p _ hln hbn HL.out HB.out hA1 HGG.out).mono ?_; rintro e w1 ⟨rfl,hq⟩; rw [HE.out]) | fail)
 refine bodyPost_ret (v:=.tuple #[.slice none 0 0,.int .i64 E]) (by simp [results,Try.results42,go_sem]) rfl ⟨rfl,B0.trans (hq.mono B0.size)⟩
set_option maxRecDepth 100000 in
set_option maxHeartbeats 4000000 in
theorem verify_bad (LA : Option Addr) (ln lc : Nat) (BA : Option Addr) (bn bc : Nat) (o : Od) (p : Int) (w : World) (hln : ln ≤ 1000) (hbn : bn ≤ 1000) (hl : o.lm.length = ln) (hb' : o.bs.length = bn) (hA : OrdAt w w.heap.size LA BA o) (hG : ∀ b ∈ o.bs,b.gr.length ≤ 1000) (PA : Option Addr) (pn pc : Nat) (hz : ckP o p ≠ 0) :
  Calls Try.prog 27 #[.agg #[.slice LA ln lc,.int .i64 o.le,.int .i64 o.mo,.slice BA bn bc],.int .i64 p,.slice PA pn pc] w fun e w' => e = .returned (.int .i64 (ckP o p)) ∧ Below w.heap.size w w':=by
 have k1:=Bx.new w 27 #[.slice LA ln lc,.int .i64 o.le,.int .i64 o.mo,.slice BA bn bc]
 have B0:=(Below.refl w.heap.size w).alloc (Nat.le_refl _) (.cells #[.slice LA ln lc,.int .i64 o.le,.int .i64 o.mo,.slice BA bn bc] 27)
 have hA1:=hA.call B0
 obtain ⟨V,hV⟩ : ∃ V,w.alloc (.cells #[.slice LA ln lc,.int .i64 o.le,.int .i64 o.mo,.slice BA bn bc] 27) = V:=⟨_,rfl⟩
 rw [hV] at k1 B0 hA1
 have HB:=Lib.hid hb'
 have HL:=Lib.hid hl
 have HV:=Lib.hid hV
 have HGG:=Lib.hid hG
 have HGB : Hid (∀ b ∈ o.bs,b.gr.length ≤ 9223372036854775807):=Lib.hid (fun b hb => by have:=hG b hb; omega)
 clear hl hb' hV hG
 obtain ⟨l0,l1,l2,l3,lf',lz⟩:=k1.four
 obtain ⟨E,hE⟩ : ∃ E,ckP o p = E:=⟨_,rfl⟩
 rw [hE] at hz ⊢
 have hne : (E == 0) = false:=by simp; exact hz
 have HE:=Lib.hid hE
 clear hE hz
 go_enter Try.func27,Try.ntmps27
 go_upto_region 1 with fail
 rw [HV.out]
 go_wp2_with (first | (go_at_call 62; refine (price_any LA ln lc BA bn bc o p _ hln hbn HL.out HB.out hA1 HGG.out).mono ?_; rintro e w1 ⟨rfl,hq⟩; rw [HE.out]) | fail)
 go_ret
 exact ⟨rfl,B0.trans (hq.mono B0.size)⟩
set_option maxRecDepth 100000 in
set_option maxHeartbeats 4000000 in
theorem refVerify_bad (LA : Option Addr) (ln lc : Nat) (BA : Option Addr) (bn bc : Nat) (o : Od) (p : Int) (w : World) (hln : ln ≤ 1000) (hbn : bn ≤ 1000) (hl : o.lm.length = ln) (hb' : o.bs.length = bn) (hA : OrdAt w w.heap.size LA BA o) (hG : ∀ b ∈ o.bs,b.gr.length ≤ 1000) (PA : Option Addr) (pn pc : Nat) (hz : ckP o p ≠ 0) :
  Calls Try.prog 45 #[.agg #[.slice LA ln lc,.int .i64 o.le,.int .i64 o.mo,.slice BA bn bc],.int .i64 p,.slice PA pn pc] w fun e w' => e = .returned (.int .i64 (ckP o p)) ∧ Below w.heap.size w w':=by
 have k1:=Bx.new w 27 #[.slice LA ln lc,.int .i64 o.le,.int .i64 o.mo,.slice BA bn bc]
 have B0:=(Below.refl w.heap.size w).alloc (Nat.le_refl _) (.cells #[.slice LA ln lc,.int .i64 o.le,.int .i64 o.mo,.slice BA bn bc] 27)
 have hA1:=hA.call B0
 obtain ⟨V,hV⟩ : ∃ V,w.alloc (.cells #[.slice LA ln lc,.int .i64 o.le,.int .i64 o.mo,.slice BA bn bc] 27) = V:=⟨_,rfl⟩
 rw [hV] at k1 B0 hA1
 have HB:=Lib.hid hb'
 have HL:=Lib.hid hl
 have HV:=Lib.hid hV
 have HGG:=Lib.hid hG
 have HGB : Hid (∀ b ∈ o.bs,b.gr.length ≤ 9223372036854775807):=Lib.hid (fun b hb => by have:=hG b hb; omega)
 clear hl hb' hV hG
 obtain ⟨l0,l1,l2,l3,lf',lz⟩:=k1.four
 obtain ⟨E,hE⟩ : ∃ E,ckP o p = E:=⟨_,rfl⟩
 rw [hE] at hz ⊢
 have hne : (E == 0) = false:=by simp; exact hz
 have HE:=Lib.hid hE
 clear hE hz
 go_enter Try.func45,Try.ntmps45
 go_upto_region 1 with fail
 rw [HV.out]
 go_wp2_with (first | (go_at_call 77; refine (refPrice_any LA ln lc BA bn bc o p _ hln hbn HL.out HB.out hA1 HGG.out).mono ?_; rintro e w1 ⟨rfl,hq⟩; rw [HE.out]) | fail)
 go_ret
 exact ⟨rfl,B0.trans (hq.mono B0.size)⟩
theorem round_any (x : Int) (n : Nat) (w : World) (hx0 : -9223372036854775808 ≤ x) (hx1 : x ≤ 9223372036854775807) (hn : 2 ≤ n) (hn2 : n ≤ 1000000) :
  Calls Try.prog 43 #[.int .i64 x,.int .i64 n] w fun e w' => (∃ r : Nat,e = .returned (.int .i64 r) ∧ r < n) ∧ Below w.heap.size w w':=by
 have h2 : decide ((n : Int) < 2) = false:=decide_eq_false (by omega)
 have h0 : ((n : Int) == 0) = false:=by simp; omega
 have hm1 : ((n : Int) == -1) = false:=by simp
 have b1 : -(n : Int) < x.tmod n:=by
  have:=Int.tmod_lt_of_pos (-x) (show (0 : Int) < n by omega)
  rw [Int.neg_tmod] at this; omega
 have b2 : x.tmod n < n:=Int.tmod_lt_of_pos x (by omega)
 have b3 : 0 ≤ (x.tmod n + n) % n:=Int.emod_nonneg _ (by omega)
 have b4 : (x.tmod n + n) % n < n:=Int.emod_lt_of_pos _ (by omega)
 have w1 : IntKind.i64.wrap (x.tmod n) = x.tmod n:=IntWalk.i64_in _ (by omega)
 have w2 : IntKind.i64.wrap (x.tmod n + n) = x.tmod n + n:=IntWalk.i64_in _ (by omega)
 go_enter Try.func43,Try.ntmps43
 go_wp2_with fail
 go_ret
 refine ⟨⟨((x.tmod n + n) % n).toNat,?_,by omega⟩,Below.refl _ _⟩
 rw [Int.toNat_of_nonneg b3]
 rfl
theorem round_one (x : Int) (w : World) :
  Calls Try.prog 43 #[.int .i64 x,.int .i64 1] w fun e w' => e = .returned (.int .i64 0) ∧ Below w.heap.size w w':=by
 go_enter Try.func43,Try.ntmps43
 go_wp2_with fail
 go_ret
 exact ⟨rfl,Below.refl _ _⟩
end Go.Proofs.Ytmemcopfeabcgaa

/-! swarflaw06.wide. -/
namespace Go.Proofs.Ytmemcopfeabcgaa
open Go Go.RowKit
set_option maxRecDepth 100000 in
set_option maxHeartbeats 4000000 in
theorem wide_any (LA : Option Addr) (ln lc : Nat) (BA : Option Addr) (bn bc : Nat) (o : Od) (w : World) (hln : ln ≤ 20) (hbn : bn ≤ 20) (hl : o.lm.length = ln) (hb' : o.bs.length = bn) (hA : OrdAt w w.heap.size LA BA o) (hG : ∀ b ∈ o.bs,b.gr.length ≤ 1000) :
  Calls Try.prog 40 #[.agg #[.slice LA ln lc,.int .i64 o.le,.int .i64 o.mo,.slice BA bn bc]] w fun e w' => (∃ hb : Bool,e = .returned (.bool hb)) ∧ Below w.heap.size w w':=by
 have k1:=Bx.new w 27 #[.slice LA ln lc,.int .i64 o.le,.int .i64 o.mo,.slice BA bn bc]
 have B0:=(Below.refl w.heap.size w).alloc (Nat.le_refl _) (.cells #[.slice LA ln lc,.int .i64 o.le,.int .i64 o.mo,.slice BA bn bc] 27)
 obtain ⟨V,hV⟩ : ∃ V,w.alloc (.cells #[.slice LA ln lc,.int .i64 o.le,.int .i64 o.mo,.slice BA bn bc] 27) = V:=⟨_,rfl⟩
 have hA1:=hA.call B0
 rw [hV] at k1 B0 hA1
 have HB:=Lib.hid hb'
 have HL:=Lib.hid hl
 have HV:=Lib.hid hV
 have HGG:=Lib.hid hG
 clear hV hl hb' hA hG
 obtain ⟨l0,l1,l2,l3,lf',lz⟩:=k1.four
 go_enter Try.func40,Try.ntmps40
 go_upto_region 1 with fail
 rw [HV.out]
 go_wp2_with fail
 go_loopw [3,4] (fun nv v wr => ∃ (i : Nat) (x : Int),v = .int .i64 i ∧ nv = .int .i64 x ∧ i ≤ bn ∧ wr = V) (fun _ v _ => bn - (intOf v).toNat)
 case atStart => exact ⟨0,1,rfl,rfl,by omega,rfl⟩
 case round =>
  obtain ⟨i,x,rfl,rfl,hi,rfl⟩:=hrel
  by_cases hin : i < bn
  ·by_cases hx : x < 1000
   ·have d : decide (x < (1000 : Int)) = true:=by simp; omega
    have hil : i < o.bs.length:=by rw [HB.out]; exact hin
    have hiw : IntKind.i64.wrap ((i : Int) + 1) = (i : Int) + 1:=IntWalk.i64_in _ (by omega)
    obtain ⟨ba,G,gc,rfl,hba,-,-,-,p3,-⟩:=hA1.bs.at_ hil
    obtain ⟨gt,hgt⟩ : ∃ k,(o.bs[i]).g = k:=⟨_,rfl⟩
    rw [hgt] at p3
    clear hgt hx
    go_wp2_with fail
    go_roundw
    case rel => exact ⟨i + 1,_,by go_num,rfl,by omega,by trivial⟩
    case measure => simp [intOf]; omega
   ·have d : decide (x < (1000 : Int)) = false:=by simp; omega
    clear hx
    by_cases h350 : 350 < x
    ·have d2 : decide ((350 : Int) < x) = true:=by simp; omega
     clear h350
     go_wp2_with (first | (go_at_call 38; go_loud (refine (refCheck_any LA ln lc BA bn bc o _ (by omega) (by omega) HL.out HB.out hA1 HGG.out).mono ?_; rintro e w1 ⟨rfl,hq⟩)) | fail)
     go_ret
     exact ⟨⟨_,rfl⟩,B0.trans (hq.mono B0.size)⟩
    ·have d2 : decide ((350 : Int) < x) = false:=by simp; omega
     clear h350
     go_wp2_with fail
     go_ret
     exact ⟨⟨_,rfl⟩,B0⟩
  ·have d : decide ((i : Int) < (bn : Int)) = false:=by simp; omega
   by_cases h350 : 350 < x
   ·have d2 : decide ((350 : Int) < x) = true:=by simp; omega
    clear h350
    go_wp2_with (first | (go_at_call 38; go_loud (refine (refCheck_any LA ln lc BA bn bc o _ (by omega) (by omega) HL.out HB.out hA1 HGG.out).mono ?_; rintro e w1 ⟨rfl,hq⟩)) | fail)
    go_ret
    exact ⟨⟨_,rfl⟩,B0.trans (hq.mono B0.size)⟩
   ·have d2 : decide ((350 : Int) < x) = false:=by simp; omega
    clear h350
    go_wp2_with fail
    go_ret
    exact ⟨⟨_,rfl⟩,B0⟩
end Go.Proofs.Ytmemcopfeabcgaa
