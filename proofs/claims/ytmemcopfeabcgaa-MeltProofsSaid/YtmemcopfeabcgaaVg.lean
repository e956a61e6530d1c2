/- melt.Verify. -/
import Derived.Test.YtmemcopfeabcgaaVfM
set_option linter.unusedSimpArgs false
set_option linter.unusedVariables false
namespace Go.Proofs.Ytmemcopfeabcgaa
open Go Go.RowKit
/-- The error of a proof for a price. -/
def vrf (o : Od) (p : Int) (L : List Bd) : Int :=
 if 6000 < L.length then 6 else if (vfy o p 25 zer o.mx L).2 ≠ 0 then (vfy o p 25 zer o.mx L).2 else if 0 < (vfy o p 25 zer o.mx L).1.length then 2 else 0
theorem wid_mx {o : Od} (h : o.Ok) : wid zer o.mx < 25:=by
 have:=h.mx.six2 0
 have:=h.mx.six2 1
 have:=h.mx.six2 2
 have:=h.mx.six2 3
 unfold wid
 simp only [zer]
 omega
set_option maxRecDepth 100000 in
set_option maxHeartbeats 4000000 in
theorem verify_ok (LA : Option Addr) (ln lc : Nat) (BA : Option Addr) (bn bc : Nat) (o : Od) (p : Int) (PA : Option Addr) (pn pc : Nat) (L : List Bd) (w : World) (hln : ln ≤ 9223372036854775807) (hbn : bn ≤ 9223372036854775807) (hl : o.lm.length = ln) (hb' : o.bs.length = bn) (hA : OrdAt w w.heap.size LA BA o) (ho : o.Ok) (hp : 0 ≤ p ∧ p ≤ 300000000) (hL : L.length = pn) (hS : Sl w w.heap.size 3 PA (L.map bdr)) (hpc : pn ≤ pc) (hpn : pn ≤ 9000000000000000000) :
  Calls Try.prog 27 #[.agg #[.slice LA ln lc,.int .i64 o.le,.int .i64 o.mo,.slice BA bn bc],.int .i64 p,.slice PA pn pc] w fun e w' => e = .returned (.int .i64 (vrf o p L)) ∧ Below w.heap.size w w':=by
 have k1:=Bx.new w 27 #[.slice LA ln lc,.int .i64 o.le,.int .i64 o.mo,.slice BA bn bc]
 have B0:=(Below.refl w.heap.size w).alloc (Nat.le_refl _) (.cells #[.slice LA ln lc,.int .i64 o.le,.int .i64 o.mo,.slice BA bn bc] 27)
 have hA1:=hA.call B0
 have hS1:=hS.call B0
 have HL:=Lib.hid hl
 have HB:=Lib.hid hb'
 have HO:=Lib.hid ho
 have HN:=Lib.hid hL
 obtain ⟨V,hV⟩ : ∃ V,w.alloc (.cells #[.slice LA ln lc,.int .i64 o.le,.int .i64 o.mo,.slice BA bn bc] 27) = V:=⟨_,rfl⟩
 rw [hV] at k1 B0 hA1 hS1
 have HV:=Lib.hid hV
 clear hl hb' ho hL hV
 obtain ⟨l0,l1,l2,l3,lf',lz⟩:=k1.four
 go_enter Try.func27,Try.ntmps27
 go_upto_region 1 with fail
 rw [HV.out]
 go_upto_region 4 with (first | (go_at_call 62; refine (checkPrice_ok LA ln lc BA bn bc o p _ hln hbn HL.out HB.out hA1 HO.out hp).mono ?_; rintro e w1 ⟨rfl,hb1⟩) | fail)
 have k2:=k1.call hb1
 have hA2:=hA1.call hb1
 have hS2:=hS1.call hb1
 have B1:=B0.trans (hb1.mono B0.size)
 clear l0 l1 l2 l3 lf' lz k1 hA1 hS1 B0 hb1
 obtain ⟨l0,l1,l2,l3,lf',lz⟩:=k2.four
 by_cases h6 : 6000 < pn
 ·have d6 : decide ((6000 : Int) < (pn : Int)) = true:=by simp; omega
  have ev : vrf o p L = 6:=by unfold vrf; rw [HN.out,if_pos h6]
  have HEV:=Lib.hid ev
  clear h6 ev
  go_wp2_with fail
  go_ret
  rw [HEV.out]
  exact ⟨rfl,B1⟩
 ·have d6 : decide ((6000 : Int) < (pn : Int)) = false:=by simp; omega
  have ev : vrf o p L = (if (vfy o p 25 zer o.mx L).2 ≠ 0 then (vfy o p 25 zer o.mx L).2 else if 0 < (vfy o p 25 zer o.mx L).1.length then 2 else 0):=by unfold vrf; rw [HN.out,if_neg h6]
  have HEV:=Lib.hid ev
  have hn6 : pn ≤ 6000:=by omega
  clear h6 ev
  go_upto_region 7 with fail
  clear l0 l1 l2 l3 lf' lz
  obtain ⟨V3,hV3⟩ : ∃ X,w1.alloc (.cells #[.slice LA ln lc,.int .i64 o.le,.int .i64 o.mo,.slice BA bn bc,.int .i64 p,.slice PA pn pc] 103) = X:=⟨_,rfl⟩
  have kq:=Bx.new w1 103 #[.slice LA ln lc,.int .i64 o.le,.int .i64 o.mo,.slice BA bn bc,.int .i64 p,.slice PA pn pc]
  have B3 : Below w1.heap.size w1 V3:=by rw [← hV3]; exact (Below.refl _ _).alloc (Nat.le_refl _) _
  rw [hV3] at kq ⊢
  obtain ⟨q,hq⟩ : ∃ q,w1.heap.size = q:=⟨_,rfl⟩
  have k3:=k2.call B3
  have hA3:=hA2.below B3
  have hS3:=hS2.below B3
  have BB:=B1.trans (B3.mono B1.size)
  have hwq : w.heap.size ≤ q:=by rw [← hq]; exact B1.size
  rw [hq] at kq hA3 hS3 ⊢
  have hqV : q < V3.heap.size:=kq.lt
  clear hV3 hq k2 hA2 hS2 B1 B3
  obtain ⟨l0,l1,l2,l3,lf',lz⟩:=k3.four
  go_upto_region 8 with (first
   | (go_at_call 57; refine (wholeBox_any LA ln lc BA bn bc o _ HL.out HB.out (hA3.more (Nat.le_of_lt hqV)) HO.out).mono ?_; rintro e w4 ⟨rfl,hb4⟩)
   | (go_at_call 64; refine (check64_any LA ln lc BA bn bc o p q q HL.out HB.out HO.out (Nat.le_refl _) 25 zer o.mx L PA pc _ (wid_mx HO.out) HO.out.mx (hA3.below (hb4.mono (Nat.le_of_lt hqV))) (hS3.below (hb4.mono (Nat.le_of_lt hqV))) (by rw [HN.out]; exact kq.call hb4) (Nat.le_trans (Nat.le_of_lt hqV) hb4.size) (by rw [HN.out]; omega) (by rw [HN.out]; exact hpc)).mono ?_; rintro e w5 ⟨rfl,G5,RA5,rc5,kq5,hS5,hr5⟩)
   | fail)
  have B5 : Below w.heap.size w w5:=(BB.trans (hb4.mono BB.size)).grown G5 (Nat.le_trans BB.size hb4.size) (fun k e => by cases e; exact hwq)
  clear l0 l1 l2 l3 lf' lz k3 hA3 hS3 kq hb4 G5 hS5
  obtain ⟨R,hR⟩ : ∃ R,vfy o p 25 zer o.mx L = R:=⟨_,rfl⟩
  rw [hR] at HEV kq5 hr5 ⊢
  clear hR
  obtain ⟨RL,re⟩:=R
  dsimp only at HEV kq5 hr5 ⊢
  have hrl : RL.length ≤ 9000000000000000000 ∨ 9000000000000000000 < RL.length:=by omega
  clear hrl
  obtain ⟨rn,hrn⟩ : ∃ k,RL.length = k:=⟨_,rfl⟩
  rw [hrn] at HEV kq5
  clear hrn hr5
  by_cases h1 : re = 0
  ·subst h1
   obtain ⟨q0,q1,q2,q3,q4,q5,qf,qz⟩:=kq5.six
   by_cases h2 : 0 < rn
   ·have d2 : decide ((0 : Int) < (rn : Int)) = true:=by simp; omega
    have HH2:=Lib.hid h2
    clear h2
    go_wp2_with fail
    go_ret
    rw [HEV.out,if_neg (fun h => h rfl),if_pos HH2.out]
    exact ⟨rfl,B5⟩
   ·obtain rfl : rn = 0:=by omega
    go_wp2_with fail
    go_ret
    rw [HEV.out,if_neg (fun h => h rfl),if_neg (by omega)]
    exact ⟨rfl,B5⟩
  ·have d1 : (re == 0) = false:=by simp; exact h1
   have HH1:=Lib.hid h1
   clear h1
   go_wp2_with fail
   go_ret
   rw [HEV.out,if_pos HH1.out]
   exact ⟨rfl,B5⟩
end Go.Proofs.Ytmemcopfeabcgaa
