/- The reference's Cheapest; melt.Cheapest of bad orders. -/
import Derived.Test.YtmemcopfeabcgaaCw
import Derived.Test.YtmemcopfeabcgaaCh
set_option linter.unusedSimpArgs false
set_option linter.unusedVariables false
namespace Go.Proofs.Ytmemcopfeabcgaa
open Go Go.RowKit
def cstS (o : Od) (bn : Nat) : Option (List Int) → Int
 | none => 0
 | some m => cst o (lf m) bn
set_option maxRecDepth 100000 in
set_option maxHeartbeats 4000000 in
theorem refCheap_ok (LA : Option Addr) (ln lc : Nat) (BA : Option Addr) (bn bc : Nat) (o : Od) (w : World) (hln : ln ≤ 1000) (hbn : bn ≤ 1000) (hl : o.lm.length = ln) (hb' : o.bs.length = bn) (hA : OrdAt w w.heap.size LA BA o) (hG : ∀ b ∈ o.bs,b.gr.length ≤ 1000) (ho : o.Ok) :
  Calls Try.prog 41 #[.agg #[.slice LA ln lc,.int .i64 o.le,.int .i64 o.mo,.slice BA bn bc]] w fun e w' => (∃ (s : Option (List Int)) (v : Value),FstMin o (allB o.gs) s ∧ e = .returned (.tuple #[v,.int .i64 (cstS o bn s),.int .i64 (if s.isSome = true then 0 else 13)]) ∧ FV w' bn v s) ∧ Below w.heap.size w w':=by
 have k1:=Bx.new w 27 #[.slice LA ln lc,.int .i64 o.le,.int .i64 o.mo,.slice BA bn bc]
 have B0:=(Below.refl w.heap.size w).alloc (Nat.le_refl _) (.cells #[.slice LA ln lc,.int .i64 o.le,.int .i64 o.mo,.slice BA bn bc] 27)
 obtain ⟨V,hV⟩ : ∃ V,w.alloc (.cells #[.slice LA ln lc,.int .i64 o.le,.int .i64 o.mo,.slice BA bn bc] 27) = V:=⟨_,rfl⟩
 have hA1:=hA.call B0
 rw [hV] at k1 B0 hA1
 have HB:=Lib.hid hb'
 have HL:=Lib.hid hl
 have HV:=Lib.hid hV
 have HGG:=Lib.hid hG
 clear hV hl hb' hA hG
 obtain ⟨l0,l1,l2,l3,lf',lz⟩:=k1.four
 have HE:=Lib.hid (ckO_zero.2 ho)
 have HO:=Lib.hid ho
 clear ho
 go_enter Try.func41,Try.ntmps41
 go_upto_region 1 with fail
 rw [HV.out]
 go_upto_region 5 with (first
  | (go_at_call 38; refine (refCheck_any LA ln lc BA bn bc o _ (by omega) (by omega) HL.out HB.out hA1 HGG.out).mono ?_; rintro e w1 ⟨rfl,hq⟩; rw [HE.out]; have hA2:=hA1.call hq; have k2:=k1.call hq; have B2:=B0.trans (hq.mono B0.size); clear l0 l1 l2 l3 lf' lz; obtain ⟨l0,l1,l2,l3,lf',lz⟩:=k2.four)
  | (go_at_call 76; refine (refCheapest_any LA ln lc BA bn bc o _ HL.out HB.out hA2 HO.out).mono ?_; rintro e w2 ⟨⟨s,v,hs,rfl,hv⟩,hq2⟩)
  | fail)
 have HS:=Lib.hid hs
 have hA3:=hA2.call hq2
 have k3:=k2.call hq2
 have B3:=B2.trans (hq2.mono B2.size)
 clear hs l0 l1 l2 l3 lf' lz k1 k2 hA1 hA2 B0 B2 hq hq2
 obtain ⟨l0,l1,l2,l3,lf',lz⟩:=k3.four
 cases s with
 | none =>
  obtain rfl:=hv
  go_wp2_with fail
  refine bodyPost_ret (v:=.tuple #[.slice none 0 0,.int .i64 0,.int .i64 13]) (by simp [results,Try.results41,go_sem]) rfl ⟨⟨none,_,HS.out,rfl,rfl⟩,B3⟩
 | some m =>
  obtain ⟨MA,mc,rfl,hml,hm6,hms⟩:=hv
  have HML:=Lib.hid hml
  have HM6:=Lib.hid hm6
  clear hml hm6
  go_wp2_with (first
   | (go_at_call 29; refine (refCost_any LA ln lc BA bn bc o MA bn mc m _ HB.out hA3 HO.out HML.out (Nat.le_refl _) hms HM6.out).mono ?_; rintro e w3 ⟨rfl,hq3⟩)
   | fail)
  refine bodyPost_ret (v:=.tuple #[.slice MA bn mc,.int .i64 (cst o (lf m) bn),.int .i64 0]) (by simp [results,Try.results41,go_sem]) rfl ⟨⟨some m,_,HS.out,rfl,⟨MA,mc,rfl,HML.out,HM6.out,hms.call hq3⟩⟩,B3.trans (hq3.mono B3.size)⟩
end Go.Proofs.Ytmemcopfeabcgaa
