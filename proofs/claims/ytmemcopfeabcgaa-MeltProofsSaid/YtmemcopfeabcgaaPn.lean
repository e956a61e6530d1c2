/- melt.claim.prove, where there is no plain proof: it panics with a blend. -/
import Derived.Test.YtmemcopfeabcgaaPpM
import Derived.Test.YtmemcopfeabcgaaVm
import Derived.Test.YtmemcopfeabcgaaVfM
set_option linter.unusedSimpArgs false
set_option linter.unusedVariables false
namespace Go.Proofs.Ytmemcopfeabcgaa
open Go Go.RowKit
theorem tot_eq (lo hi : Nat → Int) : tot lo hi = (hi 0 - lo 0 + 1) * (hi 1 - lo 1 + 1) * (hi 2 - lo 2 + 1) * (hi 3 - lo 3 + 1):=by
 have key : ∀ a m : Int,a * m + (m - 1) + 1 = (a + 1) * m:=fun a m => by rw [Int.add_mul,Int.one_mul]; omega
 unfold tot
 have e3:=key ((((hi 0 - lo 0) * (hi 1 - lo 1 + 1) + (hi 1 - lo 1)) * (hi 2 - lo 2 + 1) + (hi 2 - lo 2))) (hi 3 - lo 3 + 1)
 have e2:=key (((hi 0 - lo 0) * (hi 1 - lo 1 + 1) + (hi 1 - lo 1))) (hi 2 - lo 2 + 1)
 have e1:=key ((hi 0 - lo 0)) (hi 1 - lo 1 + 1)
 rw [Int.add_sub_cancel] at e1 e2 e3
 rw [e3,e2,e1]
theorem tot_cut {lo hi : Nat → Int} {m : Nat} (hm : m < 4) (c : Int) : tot lo (up1 hi m c) + tot (up1 lo m (c + 1)) hi = tot lo hi:=by
 rw [tot_eq,tot_eq,tot_eq]
 rcases four hm with rfl | rfl | rfl | rfl
 ·simp only [up1,if_true,show ((1 : Nat) = 0) = False by simp,show ((2 : Nat) = 0) = False by simp,show ((3 : Nat) = 0) = False by simp,if_false]
  rw [← Int.add_mul,← Int.add_mul,← Int.add_mul,show c - lo 0 + 1 + (hi 0 - (c + 1) + 1) = hi 0 - lo 0 + 1 by omega]
 ·simp only [up1,if_true,show ((0 : Nat) = 1) = False by simp,show ((2 : Nat) = 1) = False by simp,show ((3 : Nat) = 1) = False by simp,if_false]
  rw [← Int.add_mul,← Int.add_mul,← Int.mul_add,show c - lo 1 + 1 + (hi 1 - (c + 1) + 1) = hi 1 - lo 1 + 1 by omega]
 ·simp only [up1,if_true,show ((0 : Nat) = 2) = False by simp,show ((1 : Nat) = 2) = False by simp,show ((3 : Nat) = 2) = False by simp,if_false]
  rw [← Int.add_mul,← Int.mul_add,show c - lo 2 + 1 + (hi 2 - (c + 1) + 1) = hi 2 - lo 2 + 1 by omega]
 ·simp only [up1,if_true,show ((0 : Nat) = 3) = False by simp,show ((1 : Nat) = 3) = False by simp,show ((2 : Nat) = 3) = False by simp,if_false]
  rw [← Int.mul_add,show c - lo 3 + 1 + (hi 3 - (c + 1) + 1) = hi 3 - lo 3 + 1 by omega]
theorem tot_bd {lo hi : Nat → Int} (h : BoxOk lo hi) : tot lo hi ≤ 2401:=by
 rw [tot_eq]
 have b : ∀ i,0 ≤ hi i - lo i + 1 ∨ hi i - lo i + 1 < 0:=fun i => by omega
 have u : ∀ i,hi i - lo i + 1 ≤ 7:=fun i => by have:=h.six i; have:=h.six2 i; omega
 have l : ∀ i,i < 4 → 0 ≤ hi i - lo i + 1:=fun i hi' => by have:=h.le i hi'; omega
 have m1:=mul_bd (l 0 (by omega)) (u 0) (l 1 (by omega)) (u 1)
 have m2:=mul_bd m1.1 (show _ ≤ (49 : Int) by omega) (l 2 (by omega)) (u 2)
 have m3:=mul_bd m2.1 (show _ ≤ (343 : Int) by omega) (l 3 (by omega)) (u 3)
 omega
theorem prf_len {o : Od} {p : Int} : ∀ (n : Nat) (lo hi : Nat → Int) (L : List Bd),BoxOk lo hi → prf o p n lo hi = some L → (L.length : Int) + 1 ≤ 2 * tot lo hi:=by
 intro n
 induction n with
 | zero => intro lo hi L _ hp; simp [prf] at hp
 | succ n ih =>
  intro lo hi L hb hp
  have ht:=hb.tot
  unfold prf at hp
  cases hr : reason o p lo hi with
  | some r => rw [hr] at hp; simp only [Option.some.injEq] at hp; subst hp; simp; omega
  | none =>
   rw [hr] at hp
   cases h1 : one4 lo hi with
   | true => rw [h1] at hp; simp at hp
   | false =>
    rw [h1] at hp
    simp only [Bool.false_eq_true,if_false] at hp
    obtain ⟨hm4,hmn⟩:=mid_lt h1
    obtain ⟨c1,c2⟩:=cutAt_bd hb h1
    split at hp
    ·rename_i x y hx hy
     simp only [Option.some.injEq] at hp
     subst hp
     have a:=ih _ _ x (hb.lower hm4 c1 c2) hx
     have b:=ih _ _ y (hb.upper hm4 c1 c2) hy
     have t:=tot_cut (lo:=lo) (hi:=hi) hm4 (cutAt lo hi)
     simp
     omega
    ·cases hp
/-- A panic with a blend. -/
def PanicP (w : World) (v : Value) (e : Ending) (w' : World) : Prop :=
 (∃ d,e = .panicked [{ v:=.iface 81 (.agg (barr d)),recovered:=false }]) ∧ w.grownBy w' v.ownBlock
set_option maxRecDepth 100000 in
set_option maxHeartbeats 4000000 in
theorem prove_none (LA : Option Addr) (ln lc : Nat) (BA : Option Addr) (bn bc : Nat) (o : Od) (p : Int) (B : Nat) (ho : o.Ok) (hl : o.lm.length = ln) (hb' : o.bs.length = bn) : ∀ (fuel : Nat) (lo hi : Nat → Int) (v : Value) (n : Nat) (xs : List Value) (w : World),BoxOk lo hi → wid lo hi < fuel → prf o p fuel lo hi = none → OrdAt w B LA BA o → w.ownsRow B 69 3 v n xs → B ≤ w.heap.size → (n : Int) + 2 * tot lo hi ≤ 100000 →
  Calls Try.prog 89 #[.agg #[.slice LA ln lc,.int .i64 o.le,.int .i64 o.mo,.slice BA bn bc,.int .i64 p],v,.agg (xarr lo hi)] w fun e w' => PanicP w v e w':=by
 have HB:=Lib.hid hb'
 have HL:=Lib.hid hl
 have HO:=Lib.hid ho
 clear hb' hl ho
 obtain ⟨i69,hi69,hz69,hs69,iy69⟩:=info_parts info69'
 intro fuel
 induction fuel with
 | zero => intro lo hi v n xs w _ h; omega
 | succ fuel ih =>
  intro lo hi v n xs w hbx hwd hp hA how hBw hnL
  have IH:=Lib.hid ih
  have HX:=Lib.hid hbx
  have k1:=(Bx.new w 100 #[.slice LA ln lc,.int .i64 o.le,.int .i64 o.mo,.slice BA bn bc,.int .i64 p]).alloc (.cells (xarr lo hi) 91)
  have k2:=Bx.at (w.alloc (.cells #[.slice LA ln lc,.int .i64 o.le,.int .i64 o.mo,.slice BA bn bc,.int .i64 p] 100)) 91 (xarr lo hi) (n:=w.heap.size + 1) (by simp)
  have B0:=((Below.refl w.heap.size w).alloc (Nat.le_refl _) (.cells #[.slice LA ln lc,.int .i64 o.le,.int .i64 o.mo,.slice BA bn bc,.int .i64 p] 100)).alloc (by simp) (.cells (xarr lo hi) 91)
  clear ih hbx
  obtain ⟨c0,c1,c2,c3,c4,cf,cz⟩:=k1.five
  obtain ⟨p0,p1,p2,p3,p4,p5,p6,p7,pf,pz⟩:=k2.xarr
  unfold prf at hp
  cases hr : reason o p lo hi with
  | some r => rw [hr] at hp; simp at hp
  | none =>
   rw [hr] at hp
   have HR : Hid (reasonV o p lo hi = .tuple #[.agg #[.int .i64 0,.int .i64 0,.int .i64 0],.bool false]):=by unfold Hid reasonV; rw [hr]
   clear hr
   cases h1 : one4 lo hi with
   | true =>
    have HONE:=Lib.hid h1
    clear h1 hp
    go_enter Try.func89,Try.ntmps89
    go_wp2_with (first
     | (go_at_call 97; rw [← xarr_def lo hi]; refine (firstReason_any LA ln lc BA bn bc o p lo hi _ HL.out HB.out ((hA.below (B0.mono hBw)).more (Nat.le_trans hBw B0.size)) HO.out HX.out).mono ?_; rintro e w1 ⟨rfl,hb1⟩; rw [HR.out]; replace k1:=(k1.call hb1).alloc (.cells #[.int .i64 0,.int .i64 0,.int .i64 0] 69); replace k2:=(k2.call hb1).alloc (.cells #[.int .i64 0,.int .i64 0,.int .i64 0] 69); have B1:=(B0.trans (hb1.mono B0.size)).alloc (B0.trans (hb1.mono B0.size)).size (.cells #[.int .i64 0,.int .i64 0,.int .i64 0] 69); clear c0 c1 c2 c3 c4 cf cz p0 p1 p2 p3 p4 p5 p6 p7 pf pz; obtain ⟨c0,c1,c2,c3,c4,cf,cz⟩:=k1.five; obtain ⟨p0,p1,p2,p3,p4,p5,p6,p7,pf,pz⟩:=k2.xarr)
     | (go_at_call 98; rw [← xarr_def lo hi]; refine (isOne_any lo hi _ HX.out).mono ?_; rintro e w2 ⟨rfl,hb2⟩; rw [HONE.out]; replace k1:=k1.call hb2; replace k2:=k2.call hb2; have B2:=B1.trans (hb2.mono B1.size); clear c0 c1 c2 c3 c4 cf cz p0 p1 p2 p3 p4 p5 p6 p7 pf pz; obtain ⟨c0,c1,c2,c3,c4,cf,cz⟩:=k1.five; obtain ⟨p0,p1,p2,p3,p4,p5,p6,p7,pf,pz⟩:=k2.xarr)
     | (go_at_call 85; rw [← xarr_def lo hi]; refine (least_any lo hi _).mono ?_; rintro e w3 ⟨rfl,hb3⟩; have B3:=B2.trans (hb3.mono B2.size))
     | fail)
    have hfin : PanicP w v (.panicked [{ v:=.iface 81 (.agg (barr lo)),recovered:=false }]) w3:=⟨⟨lo,rfl⟩,grown_below B3⟩
    exact ⟨rfl,hfin⟩
   | false =>
    obtain ⟨hm4,_⟩:=mid_lt h1
    obtain ⟨cc1,cc2⟩:=cutAt_bd HX.out h1
    have hc6 : 0 ≤ cutAt lo hi ∧ cutAt lo hi ≤ 6:=by
     have:=HX.out.six (mid lo hi)
     have:=HX.out.six2 (mid lo hi)
     omega
    have HXL:=Lib.hid (HX.out.lower hm4 cc1 cc2)
    have HXU:=Lib.hid (HX.out.upper hm4 cc1 cc2)
    have hwl : wid lo (up1 hi (mid lo hi) (cutAt lo hi)) < fuel:=by have:=wid_lower hm4 cc1 cc2; omega
    have hwu : wid (up1 lo (mid lo hi) (cutAt lo hi + 1)) hi < fuel:=by have:=wid_upper hm4 cc1 cc2; omega
    have htc:=tot_cut (lo:=lo) (hi:=hi) hm4 (cutAt lo hi)
    have htl:=HXL.out.tot
    have htu:=HXU.out.tot
    have HONE:=Lib.hid h1
    rw [h1] at hp
    simp only [Bool.false_eq_true,if_false] at hp
    generalize hm : mid lo hi = m at *
    generalize hc : cutAt lo hi = c at *
    have HM:=Lib.hid hm
    have HC:=Lib.hid hc
    have h1c:=bd_one ⟨1,m,c⟩
    clear h1 cc1 cc2 hm hc
    cases hX : prf o p fuel lo (up1 hi m c) with
    | none =>
     have HPX:=Lib.hid hX
     have hlen : n + 2 ≤ 100000:=by omega
     clear hX hp
     go_enter Try.func89,Try.ntmps89
     go_wp2_with (first
      | (go_at_call 97; rw [← xarr_def lo hi]; refine (firstReason_any LA ln lc BA bn bc o p lo hi _ HL.out HB.out ((hA.below (B0.mono hBw)).more (Nat.le_trans hBw B0.size)) HO.out HX.out).mono ?_; rintro e w1 ⟨rfl,hb1⟩; rw [HR.out]; replace k1:=(k1.call hb1).alloc (.cells #[.int .i64 0,.int .i64 0,.int .i64 0] 69); replace k2:=(k2.call hb1).alloc (.cells #[.int .i64 0,.int .i64 0,.int .i64 0] 69); have B1:=(B0.trans (hb1.mono B0.size)).alloc (B0.trans (hb1.mono B0.size)).size (.cells #[.int .i64 0,.int .i64 0,.int .i64 0] 69); clear c0 c1 c2 c3 c4 cf cz p0 p1 p2 p3 p4 p5 p6 p7 pf pz; obtain ⟨c0,c1,c2,c3,c4,cf,cz⟩:=k1.five; obtain ⟨p0,p1,p2,p3,p4,p5,p6,p7,pf,pz⟩:=k2.xarr)
      | (go_at_call 98; rw [← xarr_def lo hi]; refine (isOne_any lo hi _ HX.out).mono ?_; rintro e w2 ⟨rfl,hb2⟩; rw [HONE.out]; replace k1:=k1.call hb2; replace k2:=k2.call hb2; have B2:=B1.trans (hb2.mono B1.size); clear c0 c1 c2 c3 c4 cf cz p0 p1 p2 p3 p4 p5 p6 p7 pf pz; obtain ⟨c0,c1,c2,c3,c4,cf,cz⟩:=k1.five; obtain ⟨p0,p1,p2,p3,p4,p5,p6,p7,pf,pz⟩:=k2.xarr)
      | (go_at_call 99; rw [← xarr_def lo hi]; refine (middle_any lo hi _ HX.out HONE.out).mono ?_; rintro e w3 ⟨rfl,hb3⟩; rw [HM.out,HC.out]; replace k1:=k1.call hb3; replace k2:=k2.call hb3; have B3:=B2.trans (hb3.mono B2.size); clear c0 c1 c2 c3 c4 cf cz p0 p1 p2 p3 p4 p5 p6 p7 pf pz; obtain ⟨c0,c1,c2,c3,c4,cf,cz⟩:=k1.five; obtain ⟨p0,p1,p2,p3,p4,p5,p6,p7,pf,pz⟩:=k2.xarr)
      | (go_at_call 91; rw [← xarr_def lo hi]; refine (cut_any lo hi m c _ hm4 hc6).mono ?_; rintro e w4 ⟨rfl,hb4⟩; replace k1:=k1.call hb4; have B4:=B3.trans (hb4.mono B3.size); rw [xarr_def lo (up1 hi m c),xarr_def (up1 lo m (c + 1)) hi])
      | (at_builtin; have k1':=((k1.alloc (.cells #[.int .i64 (lo 0),.int .i64 (up1 hi m c 0),.int .i64 (lo 1),.int .i64 (up1 hi m c 1),.int .i64 (lo 2),.int .i64 (up1 hi m c 2),.int .i64 (lo 3),.int .i64 (up1 hi m c 3)] 91)).alloc (.cells #[.int .i64 (up1 lo m (c + 1) 0),.int .i64 (hi 0),.int .i64 (up1 lo m (c + 1) 1),.int .i64 (hi 1),.int .i64 (up1 lo m (c + 1) 2),.int .i64 (hi 2),.int .i64 (up1 lo m (c + 1) 3),.int .i64 (hi 3)] 91)).alloc (.cells #[.int .i64 1,.int .i64 (m : Int),.int .i64 c] 69); have kl:=((Bx.new w4 91 #[.int .i64 (lo 0),.int .i64 (up1 hi m c 0),.int .i64 (lo 1),.int .i64 (up1 hi m c 1),.int .i64 (lo 2),.int .i64 (up1 hi m c 2),.int .i64 (lo 3),.int .i64 (up1 hi m c 3)]).alloc (.cells #[.int .i64 (up1 lo m (c + 1) 0),.int .i64 (hi 0),.int .i64 (up1 lo m (c + 1) 1),.int .i64 (hi 1),.int .i64 (up1 lo m (c + 1) 2),.int .i64 (hi 2),.int .i64 (up1 lo m (c + 1) 3),.int .i64 (hi 3)] 91)).alloc (.cells #[.int .i64 1,.int .i64 (m : Int),.int .i64 c] 69); have ku:=(Bx.at (w4.alloc (.cells #[.int .i64 (lo 0),.int .i64 (up1 hi m c 0),.int .i64 (lo 1),.int .i64 (up1 hi m c 1),.int .i64 (lo 2),.int .i64 (up1 hi m c 2),.int .i64 (lo 3),.int .i64 (up1 hi m c 3)] 91)) 91 #[.int .i64 (up1 lo m (c + 1) 0),.int .i64 (hi 0),.int .i64 (up1 lo m (c + 1) 1),.int .i64 (hi 1),.int .i64 (up1 lo m (c + 1) 2),.int .i64 (hi 2),.int .i64 (up1 lo m (c + 1) 3),.int .i64 (hi 3)] (n:=w4.heap.size + 1) (by simp)).alloc (.cells #[.int .i64 1,.int .i64 (m : Int),.int .i64 c] 69); have B5:=((B4.alloc B4.size (.cells #[.int .i64 (lo 0),.int .i64 (up1 hi m c 0),.int .i64 (lo 1),.int .i64 (up1 hi m c 1),.int .i64 (lo 2),.int .i64 (up1 hi m c 2),.int .i64 (lo 3),.int .i64 (up1 hi m c 3)] 91)).alloc (by have:=B4.size; simp; omega) (.cells #[.int .i64 (up1 lo m (c + 1) 0),.int .i64 (hi 0),.int .i64 (up1 lo m (c + 1) 1),.int .i64 (hi 1),.int .i64 (up1 lo m (c + 1) 2),.int .i64 (hi 2),.int .i64 (up1 lo m (c + 1) 3),.int .i64 (hi 3)] 91)).alloc (by have:=B4.size; simp; omega) (.cells #[.int .i64 1,.int .i64 (m : Int),.int .i64 c] 69); have how':=own_bel how B5; have hcs:=bd_cells ((w4.alloc (.cells #[.int .i64 (lo 0),.int .i64 (up1 hi m c 0),.int .i64 (lo 1),.int .i64 (up1 hi m c 1),.int .i64 (lo 2),.int .i64 (up1 hi m c 2),.int .i64 (lo 3),.int .i64 (up1 hi m c 3)] 91)).alloc (.cells #[.int .i64 (up1 lo m (c + 1) 0),.int .i64 (hi 0),.int .i64 (up1 lo m (c + 1) 1),.int .i64 (hi 1),.int .i64 (up1 lo m (c + 1) 2),.int .i64 (hi 2),.int .i64 (up1 lo m (c + 1) 3),.int .i64 (hi 3)] 91)) ⟨1,m,c⟩; simp only [World.size_alloc] at hcs; refine wpList_app2 rfl (.tmp 41) (.tmp 45) 51 rfl B 69 i69 _ 3 24 Try.underlying51 hi69 hz69 hs69 iy69 rfl (by decide) v n xs rfl how' ⟨w4.heap.size + 1 + 1,0,none⟩ 1 1 (bdr ⟨1,m,c⟩) rfl rfl hcs h1c (by unfold maxLen; omega) (by omega) (Nat.le_trans hBw B5.size) ?_; intro v5 w5 o1 o2 o3; have j1:=k1'.grown o2 (own_bx how' k1' (by decide)); have jl:=kl.grown o2 (own_bx how' kl (by decide)); have ju:=ku.grown o2 (own_bx how' ku (by decide)); have BB:=(B5.mono hBw).grown o2 (Nat.le_trans hBw B5.size) (fun k e => (how'.lt k e).1); have GG:=grown_trans (grown_below (row:=v.ownBlock) B5) o2 (.inl rfl); rw [← xarr_def lo (up1 hi m c)] at jl; rw [← xarr_def (up1 lo m (c + 1)) hi] at ju; clear k1 k2 kl ku k1' c0 c1 c2 c3 c4 cf cz p0 p1 p2 p3 p4 p5 p6 p7 pf pz hcs; obtain ⟨c0,c1,c2,c3,c4,cf,cz⟩:=j1.five; obtain ⟨p0,p1,p2,p3,p4,p5,p6,p7,pf,pz⟩:=jl.xarr; obtain ⟨y0,y1,y2,y3,y4,y5,y6,y7,yf,yz⟩:=ju.xarr)
      | (go_at_call 89; rw [← xarr_def lo (up1 hi m c)]; refine (IH.out lo (up1 hi m c) v5 (n + 1) (xs ++ bdr ⟨1,m,c⟩) _ HXL.out hwl HPX.out (hA.below BB) o1 (Nat.le_trans hBw BB.size) (by omega)).mono ?_; rintro e w6 ⟨⟨pd,rfl⟩,q2⟩; have hpan : ∃ d,Ending.panicked [{ v:=Value.iface 81 (Value.agg (barr pd)),recovered:=false }] = Ending.panicked [{ v:=Value.iface 81 (Value.agg (barr d)),recovered:=false }]:=⟨pd,rfl⟩)
      | fail)
     exact ⟨rfl,hpan,grown_trans GG q2 (by
      rcases o3 with h | h
      ·exact .inl h
      ·exact .inr fun k hk => Nat.le_trans B5.size (h k hk))⟩
    | some X =>
     rw [hX] at hp
     cases hY : prf o p fuel (up1 lo m (c + 1)) hi with
     | some Y => rw [hY] at hp; simp at hp
     | none =>
      have HPX:=Lib.hid hX
      have HPY:=Lib.hid hY
      have hxl:=prf_len fuel lo (up1 hi m c) X HXL.out hX
      have hlen : n + (1 + X.length) ≤ 100000:=by omega
      have hnu : ((n + 1 + X.length : Nat) : Int) + 2 * tot (up1 lo m (c + 1)) hi ≤ 100000:=by omega
      clear hX hY hp
      go_enter Try.func89,Try.ntmps89
      go_wp2_with (first
       | (go_at_call 97; rw [← xarr_def lo hi]; refine (firstReason_any LA ln lc BA bn bc o p lo hi _ HL.out HB.out ((hA.below (B0.mono hBw)).more (Nat.le_trans hBw B0.size)) HO.out HX.out).mono ?_; rintro e w1 ⟨rfl,hb1⟩; rw [HR.out]; replace k1:=(k1.call hb1).alloc (.cells #[.int .i64 0,.int .i64 0,.int .i64 0] 69); replace k2:=(k2.call hb1).alloc (.cells #[.int .i64 0,.int .i64 0,.int .i64 0] 69); have B1:=(B0.trans (hb1.mono B0.size)).alloc (B0.trans (hb1.mono B0.size)).size (.cells #[.int .i64 0,.int .i64 0,.int .i64 0] 69); clear c0 c1 c2 c3 c4 cf cz p0 p1 p2 p3 p4 p5 p6 p7 pf pz; obtain ⟨c0,c1,c2,c3,c4,cf,cz⟩:=k1.five; obtain ⟨p0,p1,p2,p3,p4,p5,p6,p7,pf,pz⟩:=k2.xarr)
       | (go_at_call 98; rw [← xarr_def lo hi]; refine (isOne_any lo hi _ HX.out).mono ?_; rintro e w2 ⟨rfl,hb2⟩; rw [HONE.out]; replace k1:=k1.call hb2; replace k2:=k2.call hb2; have B2:=B1.trans (hb2.mono B1.size); clear c0 c1 c2 c3 c4 cf cz p0 p1 p2 p3 p4 p5 p6 p7 pf pz; obtain ⟨c0,c1,c2,c3,c4,cf,cz⟩:=k1.five; obtain ⟨p0,p1,p2,p3,p4,p5,p6,p7,pf,pz⟩:=k2.xarr)
       | (go_at_call 99; rw [← xarr_def lo hi]; refine (middle_any lo hi _ HX.out HONE.out).mono ?_; rintro e w3 ⟨rfl,hb3⟩; rw [HM.out,HC.out]; replace k1:=k1.call hb3; replace k2:=k2.call hb3; have B3:=B2.trans (hb3.mono B2.size); clear c0 c1 c2 c3 c4 cf cz p0 p1 p2 p3 p4 p5 p6 p7 pf pz; obtain ⟨c0,c1,c2,c3,c4,cf,cz⟩:=k1.five; obtain ⟨p0,p1,p2,p3,p4,p5,p6,p7,pf,pz⟩:=k2.xarr)
       | (go_at_call 91; rw [← xarr_def lo hi]; refine (cut_any lo hi m c _ hm4 hc6).mono ?_; rintro e w4 ⟨rfl,hb4⟩; replace k1:=k1.call hb4; have B4:=B3.trans (hb4.mono B3.size); rw [xarr_def lo (up1 hi m c),xarr_def (up1 lo m (c + 1)) hi])
       | (at_builtin; have k1':=((k1.alloc (.cells #[.int .i64 (lo 0),.int .i64 (up1 hi m c 0),.int .i64 (lo 1),.int .i64 (up1 hi m c 1),.int .i64 (lo 2),.int .i64 (up1 hi m c 2),.int .i64 (lo 3),.int .i64 (up1 hi m c 3)] 91)).alloc (.cells #[.int .i64 (up1 lo m (c + 1) 0),.int .i64 (hi 0),.int .i64 (up1 lo m (c + 1) 1),.int .i64 (hi 1),.int .i64 (up1 lo m (c + 1) 2),.int .i64 (hi 2),.int .i64 (up1 lo m (c + 1) 3),.int .i64 (hi 3)] 91)).alloc (.cells #[.int .i64 1,.int .i64 (m : Int),.int .i64 c] 69); have kl:=((Bx.new w4 91 #[.int .i64 (lo 0),.int .i64 (up1 hi m c 0),.int .i64 (lo 1),.int .i64 (up1 hi m c 1),.int .i64 (lo 2),.int .i64 (up1 hi m c 2),.int .i64 (lo 3),.int .i64 (up1 hi m c 3)]).alloc (.cells #[.int .i64 (up1 lo m (c + 1) 0),.int .i64 (hi 0),.int .i64 (up1 lo m (c + 1) 1),.int .i64 (hi 1),.int .i64 (up1 lo m (c + 1) 2),.int .i64 (hi 2),.int .i64 (up1 lo m (c + 1) 3),.int .i64 (hi 3)] 91)).alloc (.cells #[.int .i64 1,.int .i64 (m : Int),.int .i64 c] 69); have ku:=(Bx.at (w4.alloc (.cells #[.int .i64 (lo 0),.int .i64 (up1 hi m c 0),.int .i64 (lo 1),.int .i64 (up1 hi m c 1),.int .i64 (lo 2),.int .i64 (up1 hi m c 2),.int .i64 (lo 3),.int .i64 (up1 hi m c 3)] 91)) 91 #[.int .i64 (up1 lo m (c + 1) 0),.int .i64 (hi 0),.int .i64 (up1 lo m (c + 1) 1),.int .i64 (hi 1),.int .i64 (up1 lo m (c + 1) 2),.int .i64 (hi 2),.int .i64 (up1 lo m (c + 1) 3),.int .i64 (hi 3)] (n:=w4.heap.size + 1) (by simp)).alloc (.cells #[.int .i64 1,.int .i64 (m : Int),.int .i64 c] 69); have B5:=((B4.alloc B4.size (.cells #[.int .i64 (lo 0),.int .i64 (up1 hi m c 0),.int .i64 (lo 1),.int .i64 (up1 hi m c 1),.int .i64 (lo 2),.int .i64 (up1 hi m c 2),.int .i64 (lo 3),.int .i64 (up1 hi m c 3)] 91)).alloc (by have:=B4.size; simp; omega) (.cells #[.int .i64 (up1 lo m (c + 1) 0),.int .i64 (hi 0),.int .i64 (up1 lo m (c + 1) 1),.int .i64 (hi 1),.int .i64 (up1 lo m (c + 1) 2),.int .i64 (hi 2),.int .i64 (up1 lo m (c + 1) 3),.int .i64 (hi 3)] 91)).alloc (by have:=B4.size; simp; omega) (.cells #[.int .i64 1,.int .i64 (m : Int),.int .i64 c] 69); have how':=own_bel how B5; have hcs:=bd_cells ((w4.alloc (.cells #[.int .i64 (lo 0),.int .i64 (up1 hi m c 0),.int .i64 (lo 1),.int .i64 (up1 hi m c 1),.int .i64 (lo 2),.int .i64 (up1 hi m c 2),.int .i64 (lo 3),.int .i64 (up1 hi m c 3)] 91)).alloc (.cells #[.int .i64 (up1 lo m (c + 1) 0),.int .i64 (hi 0),.int .i64 (up1 lo m (c + 1) 1),.int .i64 (hi 1),.int .i64 (up1 lo m (c + 1) 2),.int .i64 (hi 2),.int .i64 (up1 lo m (c + 1) 3),.int .i64 (hi 3)] 91)) ⟨1,m,c⟩; simp only [World.size_alloc] at hcs; refine wpList_app2 rfl (.tmp 41) (.tmp 45) 51 rfl B 69 i69 _ 3 24 Try.underlying51 hi69 hz69 hs69 iy69 rfl (by decide) v n xs rfl how' ⟨w4.heap.size + 1 + 1,0,none⟩ 1 1 (bdr ⟨1,m,c⟩) rfl rfl hcs h1c (by unfold maxLen; omega) (by omega) (Nat.le_trans hBw B5.size) ?_; intro v5 w5 o1 o2 o3; have j1:=k1'.grown o2 (own_bx how' k1' (by decide)); have jl:=kl.grown o2 (own_bx how' kl (by decide)); have ju:=ku.grown o2 (own_bx how' ku (by decide)); have BB:=(B5.mono hBw).grown o2 (Nat.le_trans hBw B5.size) (fun k e => (how'.lt k e).1); have GG:=grown_trans (grown_below (row:=v.ownBlock) B5) o2 (.inl rfl); rw [← xarr_def lo (up1 hi m c)] at jl; rw [← xarr_def (up1 lo m (c + 1)) hi] at ju; clear k1 k2 kl ku k1' c0 c1 c2 c3 c4 cf cz p0 p1 p2 p3 p4 p5 p6 p7 pf pz hcs; obtain ⟨c0,c1,c2,c3,c4,cf,cz⟩:=j1.five; obtain ⟨p0,p1,p2,p3,p4,p5,p6,p7,pf,pz⟩:=jl.xarr; obtain ⟨y0,y1,y2,y3,y4,y5,y6,y7,yf,yz⟩:=ju.xarr)
       | (have _t:=q1; clear _t; go_at_call 89; rw [← xarr_def (up1 lo m (c + 1)) hi]; refine (IH.out (up1 lo m (c + 1)) hi v6 (n + 1 + X.length) (xs ++ bdr ⟨1,m,c⟩ ++ bdrs X) _ HXU.out hwu HPY.out (hA.below BB6) q1 (Nat.le_trans hBw BB6.size) hnu).mono ?_; rintro e w7 ⟨⟨pd,rfl⟩,r2⟩; have hpan : ∃ d,Ending.panicked [{ v:=Value.iface 81 (Value.agg (barr pd)),recovered:=false }] = Ending.panicked [{ v:=Value.iface 81 (Value.agg (barr d)),recovered:=false }]:=⟨pd,rfl⟩)
       | (go_at_call 89; rw [← xarr_def lo (up1 hi m c)]; refine (prove_some LA ln lc BA bn bc o p B HO.out HL.out HB.out fuel lo (up1 hi m c) X v5 (n + 1) (xs ++ bdr ⟨1,m,c⟩) _ HXL.out HPX.out (hA.below BB) o1 (Nat.le_trans hBw BB.size) (by omega)).mono ?_; rintro e w6 ⟨v6,rfl,q1,q2,q3⟩; have i1:=j1.grown q2 (own_bx o1 j1 (by decide)); have iu:=ju.grown q2 (own_bx o1 ju (by decide)); have BB6:=BB.grown q2 (Nat.le_trans hBw BB.size) (fun k e => (o1.lt k e).1); clear c0 c1 c2 c3 c4 cf cz p0 p1 p2 p3 p4 p5 p6 p7 pf pz y0 y1 y2 y3 y4 y5 y6 y7 yf yz; obtain ⟨c0,c1,c2,c3,c4,cf,cz⟩:=i1.five; obtain ⟨y0,y1,y2,y3,y4,y5,y6,y7,yf,yz⟩:=iu.xarr)
       | fail)
      have hz6:=GG.size
      refine ⟨rfl,hpan,grown_trans (grown_trans GG q2 ?_) r2 ?_⟩
      ·rcases o3 with h | h
       ·exact .inl h
       ·exact .inr fun k hk => Nat.le_trans B5.size (h k hk)
      ·exact alt_trans (alt_low o3 B5.size) q3 (Nat.le_trans B5.size o2.size)
end Go.Proofs.Ytmemcopfeabcgaa
