/- The errors of orders and blends: span.IsWithin, Count, Check; melt.checkLimits, checkBin, checkBins, Check, checkBlend. -/
import Derived.Test.YtmemcopfeabcgaaOaM
set_option linter.unusedSimpArgs false
set_option linter.unusedVariables false
namespace Go.Proofs.Ytmemcopfeabcgaa
open Go.RowKit
theorem cellA {w : World} {o : Obj} {a : Addr} {v : Value} (h : w.cell? a = some v) : (w.alloc o).cell? a = some v:=(World.cell?_alloc_lt _ _ _ (World.block_lt_of_cell? w _ h)).trans h
theorem cellC {W w1 : World} (hb : Below W.heap.size W w1) {a : Addr} {v : Value} (h : W.cell? a = some v) : w1.cell? a = some v:=(hb.cell (World.block_lt_of_cell? W _ h)).trans h
theorem isWithin_any (n lo hi : Int) (w : World) : Calls Try.prog 81 #[.int .i64 n,.int .i64 lo,.int .i64 hi] w fun e w' => e = .returned (.bool (decide (lo ≤ n ∧ n ≤ hi))) ∧ Below w.heap.size w w':=by
 go_enter Try.func81,Try.ntmps81
 by_cases h1 : lo ≤ n
 ·go_wp2
  all_goals
   go_ret
   refine ⟨ret_bool ?_,Below.refl _ _⟩
   simp; try omega
 ·go_wp2
  all_goals
   go_ret
   refine ⟨ret_bool ?_,Below.refl _ _⟩
   simp; try omega
theorem isWithin_yes (n lo hi : Int) (w : World) (h : lo ≤ n ∧ n ≤ hi) : Calls Try.prog 81 #[.int .i64 n,.int .i64 lo,.int .i64 hi] w fun e w' => e = .returned (.bool true) ∧ Below w.heap.size w w' :=
 (isWithin_any n lo hi w).mono (by rintro e w' ⟨rfl,hb⟩; rw [decide_eq_true h]; exact ⟨rfl,hb⟩)
theorem isWithin_no (n lo hi : Int) (w : World) (h : ¬ (lo ≤ n ∧ n ≤ hi)) : Calls Try.prog 81 #[.int .i64 n,.int .i64 lo,.int .i64 hi] w fun e w' => e = .returned (.bool false) ∧ Below w.heap.size w w' :=
 (isWithin_any n lo hi w).mono (by rintro e w' ⟨rfl,hb⟩; rw [decide_eq_false h]; exact ⟨rfl,hb⟩)
theorem count_any (n lo hi : Int) (w : World) : Calls Try.prog 92 #[.int .i64 n,.int .i64 lo,.int .i64 hi] w fun e w' => e = .returned (.int .i64 (if n < lo then 7 else if hi < n then 6 else 0)) ∧ Below w.heap.size w w':=by
 go_enter Try.func92,Try.ntmps92
 go_wp2
 all_goals
  go_ret
  refine ⟨ret_int ?_,Below.refl _ _⟩
  repeat (first | rfl | rw [if_pos (by omega)] | rw [if_neg (by omega)])
theorem spanCheck_any (a b lo hi : Int) (w : World) :
  Calls Try.prog 72 #[.agg #[.int .i64 a,.int .i64 b],.int .i64 lo,.int .i64 hi] w fun e w' => e = .returned (.int .i64 (ckR a b lo hi)) ∧ Below w.heap.size w w':=by
 have K0:=Bx.new w 39 #[.int .i64 a,.int .i64 b]
 have B0:=(Below.refl w.heap.size w).alloc (Nat.le_refl _) (.cells #[.int .i64 a,.int .i64 b] 39)
 by_cases h1 : lo ≤ a ∧ a ≤ hi
 ·by_cases h2 : lo ≤ b ∧ b ≤ hi
  ·go_enter Try.func72,Try.ntmps72
   go_wp2_with (go_at_call 81; first | (have _t:=hb1; clear _t; refine (isWithin_yes _ _ _ _ h2).mono ?_; rintro e w2 ⟨rfl,hb2⟩; have k2:=k1.call hb2; have B2:=B1.trans (hb2.mono B1.size); obtain ⟨d0,d1,df,dz⟩:=k2.two) | (refine (isWithin_yes _ _ _ _ h1).mono ?_; rintro e w1 ⟨rfl,hb1⟩; have k1:=K0.call hb1; have B1:=B0.trans (hb1.mono B0.size); obtain ⟨c0,c1,cf,cz⟩:=k1.two))
   all_goals
    go_ret
    refine ⟨ret_int ?_,B2⟩
    unfold ckR
    repeat (first | rfl | rw [if_pos (by omega)] | rw [if_neg (by omega)])
  ·go_enter Try.func72,Try.ntmps72
   go_wp2_with (go_at_call 81; first | (have _t:=hb1; clear _t; refine (isWithin_no _ _ _ _ h2).mono ?_; rintro e w2 ⟨rfl,hb2⟩; have k2:=k1.call hb2; have B2:=B1.trans (hb2.mono B1.size); obtain ⟨d0,d1,df,dz⟩:=k2.two) | (refine (isWithin_yes _ _ _ _ h1).mono ?_; rintro e w1 ⟨rfl,hb1⟩; have k1:=K0.call hb1; have B1:=B0.trans (hb1.mono B0.size); obtain ⟨c0,c1,cf,cz⟩:=k1.two))
   all_goals
    go_ret
    refine ⟨ret_int ?_,B2⟩
    unfold ckR
    repeat (first | rfl | rw [if_pos (by omega)] | rw [if_neg (by omega)])
 ·go_enter Try.func72,Try.ntmps72
  go_wp2_with (go_at_call 81; refine (isWithin_no _ _ _ _ h1).mono ?_; rintro e w1 ⟨rfl,hb1⟩; have k1:=K0.call hb1; have B1:=B0.trans (hb1.mono B0.size); obtain ⟨c0,c1,cf,cz⟩:=k1.two)
  all_goals
   go_ret
   refine ⟨ret_int ?_,B1⟩
   unfold ckR
   repeat (first | rfl | rw [if_pos (by omega)] | rw [if_neg (by omega)])
theorem ckLs_step {L : List Int} {k : Nat} (hk : k < L.length) : ckLs (L.drop k) = if L[k] < 0 ∨ 1000000 < L[k] then 1 else ckLs (L.drop (k + 1)):=by
 rw [List.drop_eq_getElem_cons hk,ckLs]
theorem checkLimits_any (A : Option Addr) (n c : Nat) (L : List Int) (w : World) (hn : n ≤ 9223372036854775807) (hl : L.length = n) (hA : Sl w w.heap.size 1 A (inr L)) :
  Calls Try.prog 71 #[.slice A n c] w fun e w' => e = .returned (.int .i64 (if 3 < n then 6 else ckLs L)) ∧ Below w.heap.size w w':=by
 have HL:=Lib.hid hl
 clear hl
 by_cases h3 : 3 < n
 ·go_enter Try.func71,Try.ntmps71
  go_wp2_with fail
  go_ret
  exact ⟨ret_int (by first | rfl | rw [if_pos h3]),Below.refl _ _⟩
 ·have HR : Hid ((if 3 < n then (6 : Int) else ckLs L) = ckLs L):=Lib.hid (by rw [if_neg h3])
  go_enter Try.func71,Try.ntmps71
  go_wp2_with fail
  go_loopw [10] (fun i wr => ∃ k : Nat,k ≤ n ∧ i = .int .i64 k ∧ Hid (ckLs L = ckLs (L.drop k)) ∧ Below w.heap.size w wr) (fun i _ => n - (intOf i).toNat)
  case atStart => exact ⟨0,by omega,rfl,rfl,Below.refl _ _⟩
  case round =>
   obtain ⟨k,hk,rfl,hd,hB⟩:=hrel
   by_cases hkn : k < n
   ·have hke : k < L.length:=by rw [HL.out]; exact hkn
    obtain ⟨ad,rfl,_,q0⟩:=inr_at (hA.below hB) hke
    have hds:=ckLs_step hke
    generalize L[k] = x at *
    by_cases hz : 0 ≤ x ∧ x ≤ 1000000
    ·have hd' : Hid (ckLs L = ckLs (L.drop (k + 1))):=by unfold Hid; rw [hd.out,hds,if_neg (by omega)]
     clear hds
     go_wp2_with (go_at_call 81; refine (isWithin_yes _ _ _ _ hz).mono ?_; rintro e w1 ⟨rfl,hb⟩)
     go_roundw
     case rel => exact ⟨k + 1,by omega,by go_num,hd',hB.trans (hb.mono hB.size)⟩
     case measure => simp [intOf]; omega
    ·have hd' : Hid (ckLs L = 1):=by unfold Hid; rw [hd.out,hds,if_pos (by omega)]
     clear hds
     go_wp2_with (go_at_call 81; refine (isWithin_no _ _ _ _ hz).mono ?_; rintro e w1 ⟨rfl,hb⟩)
     go_ret
     exact ⟨ret_int (by first | exact hd'.out.symm | exact (HR.out.trans hd'.out).symm),hB.trans (hb.mono hB.size)⟩
   ·have hd' : Hid (ckLs L = 0):=by unfold Hid; rw [hd.out,List.drop_eq_nil_of_le (by rw [HL.out]; omega)]; rfl
    go_wp2_with fail
    go_ret
    exact ⟨ret_int (by first | exact hd'.out.symm | exact (HR.out.trans hd'.out).symm),hB⟩
theorem ckGs_step {L : List (Int × Int)} {k : Nat} (hk : k < L.length) : ckGs (L.drop k) = if ckR L[k].1 L[k].2 0 1000000 ≠ 0 then ckR L[k].1 L[k].2 0 1000000 else ckGs (L.drop (k + 1)):=by
 rw [List.drop_eq_getElem_cons hk,ckGs]
set_option maxHeartbeats 400000 in
theorem checkBin_any (A : Option Addr) (n c : Nat) (wt cs gs : Int) (G : List (Int × Int)) (m : Nat) (w : World) (hn : n ≤ 9223372036854775807) (hm : m ≤ 9223372036854775807) (hl : G.length = n) (hA : Sl w w.heap.size 2 A (gnr G)) :
  Calls Try.prog 93 #[.agg #[.slice A n c,.int .i64 wt,.int .i64 cs,.int .i64 gs],.int .i64 m] w fun e w' => e = .returned (.int .i64 (ckB m ⟨wt,cs,gs,G⟩)) ∧ Below w.heap.size w w':=by
 have K0:=Bx.new w 42 #[.slice A n c,.int .i64 wt,.int .i64 cs,.int .i64 gs]
 have B0:=(Below.refl w.heap.size w).alloc (Nat.le_refl _) (.cells #[.slice A n c,.int .i64 wt,.int .i64 cs,.int .i64 gs] 42)
 have HL:=Lib.hid hl
 clear hl
 by_cases hnm : n = m
 case neg =>
  have H1 : ckB m ⟨wt,cs,gs,G⟩ = 2:=by unfold ckB; rw [if_pos (by rw [HL.out]; exact hnm)]
  have hnm' : ((n : Int) != (m : Int)) = true:=by simp; omega
  go_enter Try.func93,Try.ntmps93
  go_wp2_with fail
  go_ret
  exact ⟨ret_int H1.symm,B0⟩
 subst hnm
 have H1 : ckB n ⟨wt,cs,gs,G⟩ = if ckGs G ≠ 0 then ckGs G else if wt < 1 ∨ 10000 < wt ∨ cs < 0 ∨ 10000000 < cs ∨ gs < 0 ∨ 6 < gs then 1 else 0:=by unfold ckB; rw [if_neg (by rw [HL.out]; simp)]
 have H1:=Lib.hid H1
 go_enter Try.func93,Try.ntmps93
 go_wp2_with fail
 go_loopw [17] (fun i wr => ∃ k : Nat,k ≤ n ∧ i = .int .i64 k ∧ Hid (ckGs G = ckGs (G.drop k)) ∧ Bx wr w.heap.size 42 #[.slice A n c,.int .i64 wt,.int .i64 cs,.int .i64 gs] ∧ Below w.heap.size w wr) (fun i _ => n - (intOf i).toNat)
 case atStart => exact ⟨0,by omega,rfl,rfl,K0,B0⟩
 case round =>
  clear K0 B0
  obtain ⟨k,hk,rfl,hd,hK,hB⟩:=hrel
  by_cases hkn : k < n
  ·have hke : k < G.length:=by rw [HL.out]; exact hkn
   obtain ⟨ad,rfl,_,q0,q1⟩:=gnr_at (hA.below hB) hke
   have hds:=ckGs_step hke
   generalize G[k] = x at *
   obtain ⟨x1,x2⟩:=x
   dsimp only at q0 q1 hds
   by_cases hz : ckR x1 x2 0 1000000 = 0
   ·have hz1 : (ckR x1 x2 0 1000000 != 0) = false:=by simpa using hz
    have hd' : Hid (ckGs G = ckGs (G.drop (k + 1))):=by unfold Hid; rw [hd.out,hds,if_neg (by simpa using hz)]
    clear hds hz
    go_wp2_with (go_at_call 72; refine (spanCheck_any _ _ _ _ _).mono ?_; rintro e w1 ⟨rfl,hb⟩)
    go_roundw
    case rel => exact ⟨k + 1,by omega,by go_num,hd',(hK.alloc _).call hb,(hB.alloc hB.size _).trans (hb.mono (by have:=hB.size; simp; omega))⟩
    case measure => simp [intOf]; omega
   ·have hz1 : (ckR x1 x2 0 1000000 != 0) = true:=by simpa using hz
    have hd' : Hid (ckB n ⟨wt,cs,gs,G⟩ = ckR x1 x2 0 1000000):=by unfold Hid; rw [H1.out,hd.out,hds,if_pos hz,if_pos hz]
    clear hds hz
    go_wp2_with (go_at_call 72; refine (spanCheck_any _ _ _ _ _).mono ?_; rintro e w1 ⟨rfl,hb⟩)
    go_ret
    exact ⟨ret_int hd'.out.symm,(hB.alloc hB.size _).trans (hb.mono (by have:=hB.size; simp; omega))⟩
  ·have hd' : Hid (ckB n ⟨wt,cs,gs,G⟩ = if wt < 1 ∨ 10000 < wt ∨ cs < 0 ∨ 10000000 < cs ∨ gs < 0 ∨ 6 < gs then 1 else 0):=by
    unfold Hid
    rw [H1.out,hd.out,List.drop_eq_nil_of_le (by rw [HL.out]; omega),if_neg (by simp [ckGs])]
   obtain ⟨c0,c1,c2,c3,cf,cz⟩:=hK.four
   by_cases h1 : 1 ≤ wt ∧ wt ≤ 10000
   ·by_cases h2 : 0 ≤ cs ∧ cs ≤ 10000000
    ·by_cases h3 : 0 ≤ gs ∧ gs ≤ 6
     ·have H2 : Hid (ckB n ⟨wt,cs,gs,G⟩ = 0):=by unfold Hid; rw [hd'.out,if_neg (by omega)]
      go_wp2_with (go_at_call 81; first | (have _t:=hb2; clear _t; refine (isWithin_yes _ _ _ _ h3).mono ?_; rintro e w3 ⟨rfl,hb3⟩; have k3:=k2.call hb3; have B3:=B2.trans (hb3.mono B2.size)) | (have _t:=hb1; clear _t; refine (isWithin_yes _ _ _ _ h2).mono ?_; rintro e w2 ⟨rfl,hb2⟩; have k2:=k1.call hb2; have B2:=B1.trans (hb2.mono B1.size); obtain ⟨d0,d1,d2,d3,df,dz⟩:=k2.four) | (refine (isWithin_yes _ _ _ _ h1).mono ?_; rintro e w1 ⟨rfl,hb1⟩; have k1:=hK.call hb1; have B1:=hB.trans (hb1.mono hB.size); obtain ⟨c0,c1,c2,c3,cf,cz⟩:=k1.four))
      go_ret
      exact ⟨ret_int H2.out.symm,B3⟩
     ·have H2 : Hid (ckB n ⟨wt,cs,gs,G⟩ = 1):=by unfold Hid; rw [hd'.out,if_pos (by omega)]
      go_wp2_with (go_at_call 81; first | (have _t:=hb2; clear _t; refine (isWithin_no _ _ _ _ h3).mono ?_; rintro e w3 ⟨rfl,hb3⟩; have k3:=k2.call hb3; have B3:=B2.trans (hb3.mono B2.size)) | (have _t:=hb1; clear _t; refine (isWithin_yes _ _ _ _ h2).mono ?_; rintro e w2 ⟨rfl,hb2⟩; have k2:=k1.call hb2; have B2:=B1.trans (hb2.mono B1.size); obtain ⟨d0,d1,d2,d3,df,dz⟩:=k2.four) | (refine (isWithin_yes _ _ _ _ h1).mono ?_; rintro e w1 ⟨rfl,hb1⟩; have k1:=hK.call hb1; have B1:=hB.trans (hb1.mono hB.size); obtain ⟨c0,c1,c2,c3,cf,cz⟩:=k1.four))
      go_ret
      exact ⟨ret_int H2.out.symm,B3⟩
    ·have H2 : Hid (ckB n ⟨wt,cs,gs,G⟩ = 1):=by unfold Hid; rw [hd'.out,if_pos (by omega)]
     go_wp2_with (go_at_call 81; first | (have _t:=hb1; clear _t; refine (isWithin_no _ _ _ _ h2).mono ?_; rintro e w2 ⟨rfl,hb2⟩; have k2:=k1.call hb2; have B2:=B1.trans (hb2.mono B1.size); obtain ⟨d0,d1,d2,d3,df,dz⟩:=k2.four) | (refine (isWithin_yes _ _ _ _ h1).mono ?_; rintro e w1 ⟨rfl,hb1⟩; have k1:=hK.call hb1; have B1:=hB.trans (hb1.mono hB.size); obtain ⟨c0,c1,c2,c3,cf,cz⟩:=k1.four))
     go_ret
     exact ⟨ret_int H2.out.symm,B2⟩
   ·have H2 : Hid (ckB n ⟨wt,cs,gs,G⟩ = 1):=by unfold Hid; rw [hd'.out,if_pos (by omega)]
    go_wp2_with (go_at_call 81; refine (isWithin_no _ _ _ _ h1).mono ?_; rintro e w1 ⟨rfl,hb1⟩; have k1:=hK.call hb1; have B1:=hB.trans (hb1.mono hB.size))
    go_ret
    exact ⟨ret_int H2.out.symm,B1⟩
theorem ckBs_step {m : Nat} {L : List Bn} {k : Nat} (hk : k < L.length) : ckBs m (L.drop k) = if ckB m L[k] ≠ 0 then ckB m L[k] else ckBs m (L.drop (k + 1)):=by
 rw [List.drop_eq_getElem_cons hk,ckBs]
set_option maxHeartbeats 400000 in
theorem checkBins_any (A : Option Addr) (n c : Nat) (bs : List Bn) (m : Nat) (w : World) (hn : n ≤ 9223372036854775807) (hm : m ≤ 9223372036854775807) (hl : bs.length = n) (hA : BinsAt w w.heap.size A bs) (hG : ∀ b ∈ bs,b.gr.length ≤ 9223372036854775807) :
  Calls Try.prog 73 #[.slice A n c,.int .i64 m] w fun e w' => e = .returned (.int .i64 (if n < 1 then 7 else if 4 < n then 6 else ckBs m bs)) ∧ Below w.heap.size w w':=by
 have HL:=Lib.hid hl
 have HG:=Lib.hid hG
 clear hl hG
 obtain ⟨E,hE⟩ : ∃ E,(if (n : Int) < 1 then (7 : Int) else if (4 : Int) < n then 6 else 0) = E:=⟨_,rfl⟩
 have HC : ∀ w,Calls Try.prog 92 #[.int .i64 n,.int .i64 1,.int .i64 4] w fun e w' => e = .returned (.int .i64 E) ∧ Below w.heap.size w w':=fun w => (count_any n 1 4 w).mono (by rintro e w' ⟨rfl,hb⟩; rw [hE]; exact ⟨rfl,hb⟩)
 by_cases h1 : n < 1 ∨ 4 < n
 ·have HR : Hid (E = (if n < 1 then 7 else if 4 < n then 6 else ckBs m bs)):=by
   unfold Hid
   rw [← hE]
   rcases h1 with h1 | h1
   ·rw [if_pos (by omega),if_pos h1]
   ·rw [if_neg (by omega),if_pos (by omega),if_neg (by omega),if_pos h1]
  have HN : (E != 0) = true:=by
   rw [← hE]
   rcases h1 with h1 | h1
   ·rw [if_pos (by omega)]; rfl
   ·rw [if_neg (by omega),if_pos (by omega)]; rfl
  clear hE
  generalize (if n < 1 then (7 : Int) else if 4 < n then 6 else ckBs m bs) = R at *
  go_enter Try.func73,Try.ntmps73
  go_wp2_with (go_at_call 92; refine (HC _).mono ?_; rintro e w1 ⟨rfl,hb⟩)
  go_ret
  exact ⟨ret_int HR.out,hb⟩
 have HR : Hid ((if n < 1 then (7 : Int) else if 4 < n then 6 else ckBs m bs) = ckBs m bs):=Lib.hid (by rw [if_neg (by omega),if_neg (by omega)])
 rw [HR.out]
 have hE0 : E = 0:=by rw [← hE,if_neg (by omega),if_neg (by omega)]
 subst hE0
 clear hE HR
 go_enter Try.func73,Try.ntmps73
 go_wp2_with (go_at_call 92; refine (HC _).mono ?_; rintro e w1 ⟨rfl,hb⟩)
 go_loopw [17] (fun i wr => ∃ k : Nat,k ≤ n ∧ i = .int .i64 k ∧ Hid (ckBs m bs = ckBs m (bs.drop k)) ∧ Below w.heap.size w wr) (fun i _ => n - (intOf i).toNat)
 case atStart => exact ⟨0,by omega,rfl,rfl,hb⟩
 case round =>
  clear hb
  obtain ⟨k,hk,rfl,hd,hB⟩:=hrel
  by_cases hkn : k < n
  ·have hke : k < bs.length:=by rw [HL.out]; exact hkn
   obtain ⟨ad,G,gc,rfl,_,q0,q1,q2,q3,hS⟩:=((hA.below hB).more hB.size).at_ hke
   have hds:=ckBs_step (m:=m) hke
   have hgl:=HG.out _ (List.getElem_mem hke)
   generalize bs[k] = b at *
   obtain ⟨bw,bc,bg,gr⟩:=b
   dsimp only at q0 q1 q2 q3 hS hgl
   obtain ⟨gn,hgn⟩ : ∃ gn,gr.length = gn:=⟨_,rfl⟩
   rw [hgn] at q0 hgl
   have HGN:=Lib.hid hgn
   clear hgn
   by_cases hz : ckB m ⟨bw,bc,bg,gr⟩ = 0
   ·have hz1 : (ckB m ⟨bw,bc,bg,gr⟩ != 0) = false:=by simpa using hz
    have hd' : Hid (ckBs m bs = ckBs m (bs.drop (k + 1))):=by unfold Hid; rw [hd.out,hds,if_neg (by simpa using hz)]
    clear hds hz hA
    go_wp2_with (go_at_call 93; refine (checkBin_any _ _ _ _ _ _ _ _ _ hgl hm HGN.out ((hS.below ((Below.refl _ _).alloc (Nat.le_refl _) _)).more (by simp))).mono ?_; rintro e w1 ⟨rfl,hb⟩)
    go_roundw
    case rel => exact ⟨k + 1,by omega,by go_num,hd',(hB.alloc hB.size _).trans (hb.mono (by have:=hB.size; simp; omega))⟩
    case measure => simp [intOf]; omega
   ·have hz1 : (ckB m ⟨bw,bc,bg,gr⟩ != 0) = true:=by simpa using hz
    have hd' : Hid (ckBs m bs = ckB m ⟨bw,bc,bg,gr⟩):=by unfold Hid; rw [hd.out,hds,if_pos hz]
    clear hds hz hA
    go_wp2_with (go_at_call 93; refine (checkBin_any _ _ _ _ _ _ _ _ _ hgl hm HGN.out ((hS.below ((Below.refl _ _).alloc (Nat.le_refl _) _)).more (by simp))).mono ?_; rintro e w1 ⟨rfl,hb⟩)
    go_ret
    exact ⟨ret_int hd'.out.symm,(hB.alloc hB.size _).trans (hb.mono (by have:=hB.size; simp; omega))⟩
  ·have hd' : Hid (ckBs m bs = 0):=by unfold Hid; rw [hd.out,List.drop_eq_nil_of_le (by rw [HL.out]; omega)]; rfl
   go_wp2_with fail
   go_ret
   exact ⟨ret_int hd'.out.symm,hB⟩
set_option maxHeartbeats 400000 in
theorem check_any (LA : Option Addr) (ln lc : Nat) (le mo : Int) (BA : Option Addr) (bn bc : Nat) (o : Od) (w : World) (hln : ln ≤ 9223372036854775807) (hbn : bn ≤ 9223372036854775807) (hl : o.lm.length = ln) (hb' : o.bs.length = bn) (hle : o.le = le) (hmo : o.mo = mo) (hA : OrdAt w w.heap.size LA BA o) (hG : ∀ b ∈ o.bs,b.gr.length ≤ 9223372036854775807) :
  Calls Try.prog 37 #[.agg #[.slice LA ln lc,.int .i64 le,.int .i64 mo,.slice BA bn bc]] w fun e w' => e = .returned (.int .i64 (ckO o)) ∧ Below w.heap.size w w':=by
 have K0:=Bx.new w 27 #[.slice LA ln lc,.int .i64 le,.int .i64 mo,.slice BA bn bc]
 have B0:=(Below.refl w.heap.size w).alloc (Nat.le_refl _) (.cells #[.slice LA ln lc,.int .i64 le,.int .i64 mo,.slice BA bn bc] 27)
 have H1 : Hid (ckO o = if 3 < ln then 6 else if ckLs o.lm ≠ 0 then ckLs o.lm else if ckR le mo 0 240000 ≠ 0 then ckR le mo 0 240000 else if bn < 1 then 7 else if 4 < bn then 6 else ckBs ln o.bs):=by
  unfold Hid ckO; rw [hl,hb',hle,hmo]
 have HL:=Lib.hid hl
 have HB:=Lib.hid hb'
 have HG:=Lib.hid hG
 clear hl hb' hle hmo hG
 obtain ⟨E,hE⟩ : ∃ E,(if 3 < ln then (6 : Int) else ckLs o.lm) = E:=⟨_,rfl⟩
 have HE:=Lib.hid hE
 by_cases hz : E = 0
 case neg =>
  have HN : (E != 0) = true:=by simpa using hz
  have HR : Hid (ckO o = E):=by
   unfold Hid
   rw [H1.out,← hE]
   split
   ·rfl
   ·rename_i h3
    rw [if_neg h3] at hE
    rw [if_pos (by rw [hE]; exact hz)]
  clear hE
  go_enter Try.func37,Try.ntmps37
  go_wp2_with (go_at_call 71; refine (checkLimits_any _ _ _ _ _ hln HL.out ((hA.lm.below B0).more B0.size)).mono ?_; rintro e w1 ⟨rfl,hb⟩; rw [HE.out])
  go_ret
  exact ⟨ret_int HR.out.symm,B0.trans (hb.mono (by simp))⟩
 subst hz
 have hc : ¬ 3 < ln ∧ ckLs o.lm = 0:=by
  split at hE
  ·cases hE
  ·exact ⟨by assumption,hE⟩
 obtain ⟨R,hR⟩ : ∃ R,ckR le mo 0 240000 = R:=⟨_,rfl⟩
 have HRR:=Lib.hid hR
 by_cases hz2 : R = 0
 case neg =>
  have HN : (R != 0) = true:=by simpa using hz2
  have HR : Hid (ckO o = R):=by
   unfold Hid
   rw [H1.out,if_neg hc.1,if_neg (by rw [hc.2]; simp),hR,if_pos hz2]
  clear hE hR hc
  go_enter Try.func37,Try.ntmps37
  go_wp2_with (first | (go_at_call 71; refine (checkLimits_any _ _ _ _ _ hln HL.out ((hA.lm.below B0).more B0.size)).mono ?_; rintro e w1 ⟨rfl,hb⟩; rw [HE.out]; have k1:=K0.call hb; have B1:=B0.trans (hb.mono B0.size); obtain ⟨c0,c1,c2,c3,cf,cz⟩:=k1.four) | (go_at_call 72; refine (spanCheck_any _ _ _ _ _).mono ?_; rintro e w2 ⟨rfl,hb2⟩; rw [HRR.out]))
  go_ret
  exact ⟨ret_int HR.out.symm,B1.trans (hb2.mono B1.size)⟩
 subst hz2
 have HR : Hid (ckO o = if bn < 1 then 7 else if 4 < bn then 6 else ckBs ln o.bs):=by
  unfold Hid
  rw [H1.out,if_neg hc.1,if_neg (by rw [hc.2]; simp),hR,if_neg (by simp)]
 rw [HR.out]
 obtain ⟨F,hF⟩ : ∃ F,(if bn < 1 then (7 : Int) else if 4 < bn then 6 else ckBs ln o.bs) = F:=⟨_,rfl⟩
 have HF:=Lib.hid hF
 rw [hF]
 clear hE hR hc hF HR H1
 go_enter Try.func37,Try.ntmps37
 go_wp2_with (first | (go_at_call 71; refine (checkLimits_any _ _ _ _ _ hln HL.out ((hA.lm.below B0).more B0.size)).mono ?_; rintro e w1 ⟨rfl,hb⟩; rw [HE.out]; have k1:=K0.call hb; have B1:=B0.trans (hb.mono B0.size); obtain ⟨c0,c1,c2,c3,cf,cz⟩:=k1.four) | (go_at_call 72; refine (spanCheck_any _ _ _ _ _).mono ?_; rintro e w2 ⟨rfl,hb2⟩; rw [HRR.out]; have k2:=k1.call hb2; have B2:=B1.trans (hb2.mono B1.size); obtain ⟨d0,d1,d2,d3,df,dz⟩:=k2.four) | (go_at_call 73; refine (checkBins_any _ _ _ _ _ _ hbn hln HB.out ((hA.bs.below B2).more B2.size) HG.out).mono ?_; rintro e w3 ⟨rfl,hb3⟩; rw [HF.out]))
 go_ret
 exact ⟨rfl,B2.trans (hb3.mono B2.size)⟩
theorem ckV_step {bs : List Bn} {L : List Int} {k : Nat} (hk : k < bs.length) (hl : k < L.length) : ckV ((bs.zip L).drop k) = if L[k] < 0 ∨ bs[k].g < L[k] then 1 else ckV ((bs.zip L).drop (k + 1)):=by
 rw [List.drop_eq_getElem_cons (by simp; omega),ckV,List.getElem_zip]
set_option maxHeartbeats 800000 in
theorem checkBlend_any (LA : Option Addr) (ln lc : Nat) (le mo : Int) (BA : Option Addr) (bn bc : Nat) (o : Od) (A : Option Addr) (n c : Nat) (L : List Int) (w : World) (hln : ln ≤ 9223372036854775807) (hbn : bn ≤ 9223372036854775807) (hl : o.lm.length = ln) (hb' : o.bs.length = bn) (hle : o.le = le) (hmo : o.mo = mo) (hA : OrdAt w w.heap.size LA BA o) (hG : ∀ b ∈ o.bs,b.gr.length ≤ 9223372036854775807)
  (hn : n ≤ 9223372036854775807) (hL : L.length = n) (hS : Sl w w.heap.size 1 A (inr L)) :
  Calls Try.prog 48 #[.agg #[.slice LA ln lc,.int .i64 le,.int .i64 mo,.slice BA bn bc],.slice A n c] w fun e w' => e = .returned (.int .i64 (ckBl o L)) ∧ Below w.heap.size w w':=by
 have K0:=Bx.new w 27 #[.slice LA ln lc,.int .i64 le,.int .i64 mo,.slice BA bn bc]
 have B0:=(Below.refl w.heap.size w).alloc (Nat.le_refl _) (.cells #[.slice LA ln lc,.int .i64 le,.int .i64 mo,.slice BA bn bc] 27)
 have hck : ∀ w',Below w.heap.size w w' → Calls Try.prog 37 #[.agg #[.slice LA ln lc,.int .i64 le,.int .i64 mo,.slice BA bn bc]] w' fun e w'' => e = .returned (.int .i64 (ckO o)) ∧ Below w'.heap.size w' w'':=fun w' hb => check_any LA ln lc le mo BA bn bc o w' hln hbn hl hb' hle hmo ((hA.below hb).more hb.size) hG
 have HN:=Lib.hid hL
 have HB:=Lib.hid hb'
 clear hl hb' hle hmo hG hL
 by_cases hz : ckO o = 0
 case neg =>
  have hz1 : (ckO o != 0) = true:=by simpa using hz
  have H1 : Hid (ckBl o L = ckO o):=by unfold Hid ckBl; rw [if_pos hz]
  rw [H1.out]
  clear hz H1
  go_enter Try.func48,Try.ntmps48
  go_wp2_with (go_at_call 37; refine (hck _ B0).mono ?_; rintro e w1 ⟨rfl,hb⟩)
  go_ret
  exact ⟨rfl,B0.trans (hb.mono (by simp))⟩
 have H1 : Hid (ckBl o L = if n ≠ bn then 2 else ckV (o.bs.zip L)):=by unfold Hid ckBl; rw [if_neg (by rw [hz]; simp),HN.out,HB.out]
 rw [H1.out]
 have HZ:=Lib.hid hz
 clear hz H1
 by_cases hnb : n = bn
 case neg =>
  have hnb' : ((n : Int) != (bn : Int)) = true:=by simp; omega
  rw [if_pos hnb]
  go_enter Try.func48,Try.ntmps48
  go_wp2_with (go_at_call 37; refine (hck _ B0).mono ?_; rintro e w1 ⟨rfl,hb⟩; rw [HZ.out]; have k1:=K0.call hb; have B1:=B0.trans (hb.mono B0.size); obtain ⟨c0,c1,c2,c3,cf,cz⟩:=k1.four)
  go_ret
  exact ⟨rfl,B1⟩
 rw [if_neg (by omega)]
 subst hnb
 go_enter Try.func48,Try.ntmps48
 go_wp2_with (go_at_call 37; refine (hck _ B0).mono ?_; rintro e w1 ⟨rfl,hb⟩; rw [HZ.out]; have k1:=K0.call hb; have B1:=B0.trans (hb.mono B0.size); obtain ⟨c0,c1,c2,c3,cf,cz⟩:=k1.four)
 go_loopw [21] (fun i wr => ∃ k : Nat,k ≤ n ∧ i = .int .i64 k ∧ Hid (ckV (o.bs.zip L) = ckV ((o.bs.zip L).drop k)) ∧ Bx wr w.heap.size 27 #[.slice LA ln lc,.int .i64 le,.int .i64 mo,.slice BA n bc] ∧ Below w.heap.size w wr) (fun i _ => n - (intOf i).toNat)
 case atStart => exact ⟨0,by omega,rfl,rfl,k1,B1⟩
 case round =>
  clear hb k1 B1 c0 c1 c2 c3 cf cz
  obtain ⟨k,hk,rfl,hd,hK,hB⟩:=hrel
  obtain ⟨c0,c1,c2,c3,cf,cz⟩:=hK.four
  by_cases hkn : k < n
  ·have hke : k < o.bs.length:=by rw [HB.out]; exact hkn
   have hkl : k < L.length:=by rw [HN.out]; exact hkn
   obtain ⟨ad,rfl,_,p0⟩:=inr_at ((hS.below hB).more hB.size) hkl
   obtain ⟨bd,G,gc,rfl,_,q0,q1,q2,q3,_⟩:=((hA.bs.below hB).more hB.size).at_ hke
   have hds:=ckV_step hke hkl
   generalize o.bs[k] = b at *
   generalize L[k] = x at *
   obtain ⟨bw,bc',bg,gr⟩:=b
   dsimp only at q0 q1 q2 q3 hds
   clear hS hA hck
   by_cases hz : 0 ≤ x ∧ x ≤ bg
   ·have hd' : Hid (ckV (o.bs.zip L) = ckV ((o.bs.zip L).drop (k + 1))):=by unfold Hid; rw [hd.out,hds,if_neg (by omega)]
    clear hds
    go_wp2_with (go_at_call 81; refine (isWithin_yes _ _ _ _ hz).mono ?_; rintro e w1 ⟨rfl,hb⟩)
    go_roundw
    case rel => exact ⟨k + 1,by omega,by go_num,hd',hK.call hb,hB.trans (hb.mono hB.size)⟩
    case measure => simp [intOf]; omega
   ·have hd' : Hid (ckV (o.bs.zip L) = 1):=by unfold Hid; rw [hd.out,hds,if_pos (by omega)]
    clear hds
    go_wp2_with (go_at_call 81; refine (isWithin_no _ _ _ _ hz).mono ?_; rintro e w1 ⟨rfl,hb⟩)
    go_ret
    exact ⟨ret_int hd'.out.symm,hB.trans (hb.mono hB.size)⟩
  ·have hd' : Hid (ckV (o.bs.zip L) = 0):=by unfold Hid; rw [hd.out,List.drop_eq_nil_of_le (by simp [HB.out,HN.out]; omega)]; rfl
   go_wp2_with fail
   go_ret
   exact ⟨ret_int hd'.out.symm,hB⟩
end Go.Proofs.Ytmemcopfeabcgaa
