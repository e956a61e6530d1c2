/- swarfref06.verify: whether a proof is right, on the reference's side. -/
import Derived.Test.YtmemcopfeabcgaaRt
import Derived.Test.YtmemcopfeabcgaaWf
set_option linter.unusedSimpArgs false
set_option linter.unusedVariables false
namespace Go.Proofs.Ytmemcopfeabcgaa
open Go Go.RowKit
theorem from65_same (n lo hi : Int) (w : World) : Calls Try.prog 65 #[.int .i64 n,.int .i64 lo,.int .i64 hi] w fun e w' => e = .returned (.bool (decide (lo ≤ n ∧ n ≤ hi))) ∧ w = w':=by
 by_cases h1 : lo ≤ n
 ·by_cases h2 : n ≤ hi
  ·have d1 : decide (lo ≤ n) = true:=decide_eq_true h1
   have d2 : decide (n ≤ hi) = true:=decide_eq_true h2
   have e : decide (lo ≤ n ∧ n ≤ hi) = true:=decide_eq_true ⟨h1,h2⟩
   rw [e]
   clear h1 h2 e
   go_enter Try.func65,Try.ntmps65
   go_wp2_with fail
   go_ret
   exact ⟨rfl,rfl⟩
  ·have d1 : decide (lo ≤ n) = true:=decide_eq_true h1
   have d2 : decide (n ≤ hi) = false:=decide_eq_false h2
   have e : decide (lo ≤ n ∧ n ≤ hi) = false:=decide_eq_false fun h => h2 h.2
   rw [e]
   clear h1 h2 e
   go_enter Try.func65,Try.ntmps65
   go_wp2_with fail
   go_ret
   exact ⟨rfl,rfl⟩
 ·have d1 : decide (lo ≤ n) = false:=decide_eq_false h1
  have e : decide (lo ≤ n ∧ n ≤ hi) = false:=decide_eq_false fun h => h1 h.1
  rw [e]
  clear h1 e
  go_enter Try.func65,Try.ntmps65
  go_wp2_with fail
  go_ret
  exact ⟨rfl,rfl⟩
/-- What verify gives. -/
def VryP (o : Od) (p : Int) (n : Nat) (lo hi : Nat → Int) (L : List Bd) (w : World) (e : Ending) (w' : World) : Prop :=
 (∃ v,e = .returned (.tuple #[v,.int .i64 (vfy o p n lo hi L).2]) ∧ ((vfy o p n lo hi L).2 ≠ 0 → v = .slice none 0 0) ∧ ((vfy o p n lo hi L).2 = 0 → ∃ (A : Option Addr) (c : Nat),v = .slice A (vfy o p n lo hi L).1.length c ∧ (vfy o p n lo hi L).1.length ≤ c ∧ Sl w' w'.heap.size 3 A ((vfy o p n lo hi L).1.map bdr))) ∧ Below w.heap.size w w'
theorem vry_bad {o : Od} {p : Int} {n : Nat} {lo hi : Nat → Int} {r : Bd} {L : List Bd} {x : Int} (h : ckBd o p lo hi r = x) (hx : x ≠ 0) : vfy o p (n + 1) lo hi (r :: L) = (L,x):=by
 unfold vfy
 rw [if_pos (by rw [h]; exact hx),h]
theorem vry_end {o : Od} {p : Int} {n : Nat} {lo hi : Nat → Int} {r : Bd} {L : List Bd} (h : ckBd o p lo hi r = 0) (h1 : r.rs ≠ 1) : vfy o p (n + 1) lo hi (r :: L) = (L,0):=by
 unfold vfy
 rw [if_neg (fun h2 => h2 h),if_pos h1]
set_option maxRecDepth 100000 in
set_option maxHeartbeats 16000000 in
theorem refVerify80_any (LA : Option Addr) (ln lc : Nat) (BA : Option Addr) (bn bc : Nat) (o : Od) (p : Int) (hl : o.lm.length = ln) (hb' : o.bs.length = bn) (ho : o.Ok) : ∀ (fuel : Nat) (Lo Hi : List Int) (SA TA : Option Addr) (sc tc : Nat) (L : List Bd) (PA : Option Addr) (pc : Nat) (w : World),wid (lf Lo) (lf Hi) < fuel → BoxOk (lf Lo) (lf Hi) → Lo.length = bn → Hi.length = bn → OrdAt w w.heap.size LA BA o → Sl w w.heap.size 1 SA (inr Lo) → Sl w w.heap.size 1 TA (inr Hi) → Sl w w.heap.size 3 PA (L.map bdr) → L.length ≤ pc → L.length ≤ 9000000000000000000 →
  Calls Try.prog 80 #[.agg #[.slice LA ln lc,.int .i64 o.le,.int .i64 o.mo,.slice BA bn bc],.agg #[.slice SA bn sc,.slice TA bn tc],.int .i64 p,.slice PA L.length pc] w (VryP o p fuel (lf Lo) (lf Hi) L w):=by
 have HB:=Lib.hid hb'
 have HL:=Lib.hid hl
 have HO:=Lib.hid ho
 have hbn4 : bn ≤ 4:=by rw [← hb']; exact ho.b2
 have hbn1 : 1 ≤ bn:=by rw [← hb']; exact ho.b1
 have hln3 : ln ≤ 3:=by rw [← hl]; exact ho.lm
 clear hb' hl ho
 intro fuel
 induction fuel with
 | zero => intro Lo Hi SA TA sc tc L PA pc w hw; omega
 | succ fuel ih =>
  intro Lo Hi SA TA sc tc L PA pc w hw hbx hlo hhi hA hS hT hP hpc hL9
  have IH:=Lib.hid ih
  have HX:=Lib.hid hbx
  have HLO:=Lib.hid hlo
  have HHI:=Lib.hid hhi
  clear ih hbx hlo hhi
  have k1:=(Bx.new w 27 #[.slice LA ln lc,.int .i64 o.le,.int .i64 o.mo,.slice BA bn bc]).alloc (.cells #[.slice SA bn sc,.slice TA bn tc] 119)
  have k2:=Bx.at (w.alloc (.cells #[.slice LA ln lc,.int .i64 o.le,.int .i64 o.mo,.slice BA bn bc] 27)) 119 #[.slice SA bn sc,.slice TA bn tc] (n:=w.heap.size + 1) (by simp)
  have B0:=((Below.refl w.heap.size w).alloc (Nat.le_refl _) (.cells #[.slice LA ln lc,.int .i64 o.le,.int .i64 o.mo,.slice BA bn bc] 27)).alloc (by simp) (.cells #[.slice SA bn sc,.slice TA bn tc] 119)
  have hA1:=hA.call B0
  have hS1:=hS.call B0
  have hT1:=hT.call B0
  have hP1:=hP.call B0
  obtain ⟨V,hV⟩ : ∃ V,(w.alloc (.cells #[.slice LA ln lc,.int .i64 o.le,.int .i64 o.mo,.slice BA bn bc] 27)).alloc (.cells #[.slice SA bn sc,.slice TA bn tc] 119) = V:=⟨_,rfl⟩
  rw [hV] at k1 k2 B0 hA1 hS1 hT1 hP1
  have HV:=Lib.hid hV
  clear hV hA hS hT hP
  obtain ⟨b0,hb0⟩ : ∃ b,w.heap.size = b:=⟨_,rfl⟩
  rw [hb0] at k1 k2
  have HB0:=Lib.hid hb0
  clear hb0
  obtain ⟨n,hn⟩ : ∃ n,L.length = n:=⟨_,rfl⟩
  rw [hn] at hpc hL9 ⊢
  cases L with
  | nil =>
   obtain rfl : n = 0:=by simpa using hn.symm
   go_enter Try.func80,Try.ntmps80
   go_upto_region 1 with fail
   rw [HV.out,HB0.out]
   go_wp2_with fail
   refine bodyPost_ret (v:=.tuple #[.slice none 0 0,.int .i64 2]) (by simp [results,Try.results80,go_sem]) rfl ⟨⟨_,by simp [vfy],fun _ => rfl,fun h => by simp [vfy] at h⟩,B0⟩
  | cons r L =>
   have hnr : n = L.length + 1:=by simpa using hn.symm
   obtain ⟨ad,h0,had,r0,r1,r2⟩:=bd_at hP1 (k:=0) (by simp)
   subst h0
   have hPD:=bds_drop hP1
   obtain ⟨rs,at_,ct⟩:=r
   simp only [Nat.zero_mul,Sp3,add0] at r0 r1 r2
   have HN:=Lib.hid hnr
   have hn0 : ((n : Int) == 0) = false:=by simp; have:=HN.out; omega
   have hn1 : 1 ≤ n:=by have:=HN.out; omega
   have hn0' : 0 < n:=hn1
   have hn1i : (1 : Int) ≤ (n : Int):=by omega
   clear hn hnr
   obtain ⟨NA,hNA⟩ : ∃ x,(if pc = 1 then some ad else some (⟨ad.block,ad.off + 3,none⟩ : Addr)) = x:=⟨_,rfl⟩
   have hPN : Sl V V.heap.size 3 NA (L.map bdr):=by
    rw [← hNA]
    split
    ·have : L = []:=List.eq_nil_of_length_eq_zero (by have:=HN.out; omega)
     subst this; exact Sl.nil _ _ _ _
    ·rw [← show ad.add 3 = (⟨ad.block,ad.off + 3,none⟩ : Addr) from rfl]; exact hPD
   have HNA:=Lib.hid hNA
   clear hNA hPD hP1
   go_enter Try.func80,Try.ntmps80
   go_upto_region 3 with fail
   rw [HV.out,HB0.out]
   go_wp2_with fail
   refine AnyG.startC (by kernel_rfl) ?_
   refine AnyG.takeP (i:=0) (v:=?_) rfl (by kernel_rfl) (fun _ _ _ h => h) rfl ?_ ?_
   rotate_left
   ·(intro w'; go_simp; try with_reducible rfl)
   try simp only [Act.put,Sp1,Sp2,Sp3,Sp4,Sp5,Sp6]
   refine AnyG.takeP (i:=1) (v:=?_) rfl (by kernel_rfl) (fun _ _ _ h => h) rfl ?_ ?_
   rotate_left
   ·(intro w'; go_simp; try with_reducible rfl)
   try simp only [Act.put,Sp1,Sp2,Sp3,Sp4,Sp5,Sp6]
   refine AnyG.takeP (i:=3) (v:=?_) rfl (by kernel_rfl) (fun _ _ _ h => h) rfl ?_ ?_
   rotate_left
   ·(intro w'; go_simp; try with_reducible rfl)
   try simp only [Act.put,Sp1,Sp2,Sp3,Sp4,Sp5,Sp6]
   refine AnyG.takeP (i:=4) (v:=?_) rfl (by kernel_rfl) (fun _ _ _ h => h) rfl ?_ ?_
   rotate_left
   ·(intro w'; go_simp; try with_reducible rfl)
   try simp only [Act.put,Sp1,Sp2,Sp3,Sp4,Sp5,Sp6]
   refine AnyG.enter (fun w' : World => Below V.heap.size V w') (fun i => true) ?_
   have hS : (fun w' : World => Below V.heap.size V w') (World.drew _):=(Below.refl _ _).drew
   refine AnyG.takeC (i:=2) (v:=?_) rfl (by kernel_rfl) (fun _ _ _ h => h) rfl ?_ hS ?_
   rotate_left
   ·(intro w' hSw; (try dsimp only at hSw); have q0:=cellC hSw r0; have q1:=cellC hSw r1; have q2:=cellC hSw r2; go_simp; try with_reducible rfl)
   try simp only [Act.put,Sp1,Sp2,Sp3,Sp4,Sp5,Sp6]
   refine AnyG.one (i:=5) (by kernel_rfl) rfl rfl ?_
   go_simp
   refine Onward.on ((Below.refl V.heap.size V).drew.alloc (Nat.le_refl _) _) (fun hS2 => ?_)
   clear hS
   have hS:=hS2
   clear hS2
   try simp only [Act.put,Sp1,Sp2,Sp3,Sp4,Sp5,Sp6]
   refine AnyG.one (i:=6) (by kernel_rfl) rfl rfl ?_
   go_simp
   refine Onward.on (((Below.refl V.heap.size V).alloc (Nat.le_refl _) _).drew) (fun hS2 => ?_)
   clear hS
   have hS:=hS2
   clear hS2
   try simp only [Act.put,Sp1,Sp2,Sp3,Sp4,Sp5,Sp6]
   refine AnyG.takeC (i:=7) (v:=?_) rfl (by kernel_rfl) (fun _ _ _ h => h) rfl ?_ hS ?_
   rotate_left
   ·(intro w' hSw; (try dsimp only at hSw); go_simp; try with_reducible rfl)
   try simp only [Act.put,Sp1,Sp2,Sp3,Sp4,Sp5,Sp6]
   refine AnyG.done (by kernel_rfl) ?_ _
   try rw [HNA.out]
   have kb : Bx ((V.alloc (.cells #[.int .i64 rs,.int .i64 at_,.int .i64 ct] 69)).drew) V.heap.size 69 #[.int .i64 rs,.int .i64 at_,.int .i64 ct]:=(Bx.new V 69 #[.int .i64 rs,.int .i64 at_,.int .i64 ct]).drew
   have B3 : Below V.heap.size V ((V.alloc (.cells #[.int .i64 rs,.int .i64 at_,.int .i64 ct] 69)).drew):=((Below.refl V.heap.size V).alloc (Nat.le_refl _) (.cells #[.int .i64 rs,.int .i64 at_,.int .i64 ct] 69)).drew
   obtain ⟨U,hU⟩ : ∃ U,(V.alloc (.cells #[.int .i64 rs,.int .i64 at_,.int .i64 ct] 69)).drew = U:=⟨_,rfl⟩
   rw [hU] at kb B3 ⊢
   have k1U:=k1.call B3
   have k2U:=k2.call B3
   have hAU:=hA1.call B3
   have hSU:=hS1.call B3
   have hTU:=hT1.call B3
   have hPU:=hPN.call B3
   have BU:=B0.trans (B3.mono B0.size)
   obtain ⟨bb,hbb⟩ : ∃ b,V.heap.size = b:=⟨_,rfl⟩
   rw [hbb] at kb ⊢
   clear hU hbb B3 k1 k2 hA1 hS1 hT1 hPN B0 r0 r1 r2
   obtain ⟨q0,q1,q2,qf,qz⟩:=kb.three
   obtain ⟨l0,l1,l2,l3,lf',lz⟩:=k1U.four
   obtain ⟨x0,x1,xf,xz⟩:=k2U.two
   have hLn : L.length = n - 1:=by have:=HN.out; omega
   have HLN:=Lib.hid hLn
   clear hLn
   by_cases h15 : 1 ≤ rs ∧ rs ≤ 5
   ·have H1:=Lib.hid (decide_eq_true h15)
    by_cases h1 : rs = 1
    ·subst h1
     by_cases hat : 0 ≤ at_ ∧ at_ ≤ (bn : Int) - 1
     ·have H2:=Lib.hid (decide_eq_true hat)
      obtain ⟨m,rfl⟩ : ∃ m : Nat,at_ = m:=⟨at_.toNat,by omega⟩
      have hmb : m < bn:=by omega
      have hml : m < Lo.length:=by rw [HLO.out]; exact hmb
      have hmh : m < Hi.length:=by rw [HHI.out]; exact hmb
      obtain ⟨sa,rfl,hsa,hx⟩:=inr_at hSU hml
      obtain ⟨ta,rfl,hta,hy⟩:=inr_at hTU hmh
      rw [lf_at hml] at hx
      rw [lf_at hmh] at hy
      have x6:=HX.out.six m
      have y6:=HX.out.six2 m
      obtain ⟨x,hxe⟩ : ∃ x,lf Lo m = x:=⟨_,rfl⟩
      obtain ⟨y,hye⟩ : ∃ y,lf Hi m = y:=⟨_,rfl⟩
      rw [hxe] at hx x6
      rw [hye] at hy y6
      have HXY:=Lib.hid (And.intro hxe hye)
      have hyw : IntKind.i64.wrap (y - 1) = y - 1:=IntWalk.i64_in _ (by omega)
      clear hxe hye hat h15
      by_cases hct : x ≤ ct ∧ ct ≤ y - 1
      ·have H3:=Lib.hid (decide_eq_true hct)
       have hck : ckBd o p (lf Lo) (lf Hi) ⟨1,(m : Int),ct⟩ = 0:=by
        unfold ckBd
        dsimp only
        rw [if_pos rfl,if_neg (by rw [HB.out]; omega),Int.toNat_natCast,HXY.out.1,HXY.out.2,if_neg (by omega)]
       have hm4 : m < 4:=by omega
       have z1 : lf Lo m ≤ ct:=by rw [HXY.out.1]; exact hct.1
       have z2 : ct < lf Hi m:=by rw [HXY.out.2]; omega
       have elo:=lf_set (L:=Hi) (m:=m) hmh ct
       have ehi:=lf_set (L:=Lo) (m:=m) hml (ct + 1)
       have wl:=wid_lower hm4 z1 z2
       have wu:=wid_upper hm4 z1 z2
       have XL:=HX.out.lower hm4 z1 z2
       have XU:=HX.out.upper hm4 z1 z2
       rw [← elo] at wl XL
       rw [← ehi] at wu XU
       have HXL:=Lib.hid XL
       have HXU:=Lib.hid XU
       have HL1:=Lib.hid (show (Hi.set m ct).length = bn by rw [List.length_set]; exact HHI.out)
       have HL2:=Lib.hid (show (Lo.set m (ct + 1)).length = bn by rw [List.length_set]; exact HLO.out)
       replace wl : wid (lf Lo) (lf (Hi.set m ct)) < fuel:=by omega
       replace wu : wid (lf (Lo.set m (ct + 1))) (lf Hi) < fuel:=by omega
       have ev : vfy o p (fuel + 1) (lf Lo) (lf Hi) (⟨1,(m : Int),ct⟩ :: L) = (if (vfy o p fuel (lf Lo) (lf (Hi.set m ct)) L).2 ≠ 0 then vfy o p fuel (lf Lo) (lf (Hi.set m ct)) L else vfy o p fuel (lf (Lo.set m (ct + 1))) (lf Hi) (vfy o p fuel (lf Lo) (lf (Hi.set m ct)) L).1):=by
        conv => lhs; unfold vfy
        rw [if_neg (fun h2 => h2 hck),if_neg (fun h2 => h2 rfl)]
        dsimp only
        rw [Int.toNat_natCast,← elo,← ehi]
       have HEV:=Lib.hid ev
       have hc6 : 0 ≤ ct ∧ ct ≤ 6:=by omega
       have hvl:=vfy_len (o:=o) (p:=p) fuel (lf Lo) (lf (Hi.set m ct)) L
       rw [HLN.out] at hvl
       clear hck z1 z2 elo ehi XL XU ev
       go_upto_region 9 with (first | (go_at_call 65; refine (from65_same _ _ _ _).mono ?_; rintro e w2 ⟨rfl,rfl⟩; first | rw [H1.out] | rw [H2.out]) | fail)
       clear q0 q1 q2 qf qz l0 l1 l2 l3 lf' lz x0 x1 xf xz
       go_wp2_with fail
       refine AnyG.startC (by kernel_rfl) ?_
       refine AnyG.takeP (i:=0) (v:=?_) rfl (by kernel_rfl) (fun _ _ _ h => h) rfl ?_ ?_
       rotate_left
       ·(intro w'; go_simp; try with_reducible rfl)
       try simp only [Act.put,Sp1,Sp2,Sp3,Sp4,Sp5,Sp6]
       refine AnyG.enter (fun w' : World => Below U.heap.size U w') (fun i => true) ?_
       have hS : (fun w' : World => Below U.heap.size U w') (World.drew _):=(Below.refl _ _).drew
       refine AnyG.takeC (i:=1) (v:=?_) rfl (by kernel_rfl) (fun _ _ _ h => h) rfl ?_ hS ?_
       rotate_left
       ·(intro w' hSw; (try dsimp only at hSw); obtain ⟨q0,q1,q2,qf,qz⟩:=(kb.call hSw).three; go_simp; try with_reducible rfl)
       try simp only [Act.put,Sp1,Sp2,Sp3,Sp4,Sp5,Sp6]
       refine AnyG.takeC (i:=2) (v:=?_) rfl (by kernel_rfl) (fun _ _ _ h => h) rfl ?_ hS ?_
       rotate_left
       ·(intro w' hSw; (try dsimp only at hSw); go_simp; try with_reducible rfl)
       try simp only [Act.put,Sp1,Sp2,Sp3,Sp4,Sp5,Sp6]
       refine AnyG.takeC (i:=3) (v:=?_) rfl (by kernel_rfl) (fun _ _ _ h => h) rfl ?_ hS ?_
       rotate_left
       ·(intro w' hSw; (try dsimp only at hSw); go_simp; try with_reducible rfl)
       try simp only [Act.put,Sp1,Sp2,Sp3,Sp4,Sp5,Sp6]
       refine AnyG.takeGC (i:=4) (v:=?_) rfl (by kernel_rfl) (fun _ _ _ h => h) (by first | (simp [Region.wanted,yielded]; done) | simp [Region.wanted,yielded,undef]) ?_ hS ?_
       rotate_left
       ·(intro w' hSw; (try dsimp only at hSw); go_simp; try with_reducible rfl)
       try simp only [Act.put,Sp1,Sp2,Sp3,Sp4,Sp5,Sp6]
       refine AnyG.takeGC (i:=5) (v:=?_) rfl (by kernel_rfl) (fun _ _ _ h => h) (by first | (simp [Region.wanted,yielded]; done) | simp [Region.wanted,yielded,undef]) ?_ hS ?_
       rotate_left
       ·(intro w' hSw; (try dsimp only at hSw); obtain ⟨q0,q1,q2,qf,qz⟩:=(kb.call hSw).three; go_simp; try with_reducible rfl)
       try simp only [Act.put,Sp1,Sp2,Sp3,Sp4,Sp5,Sp6]
       refine AnyG.takeGC (i:=6) (v:=?_) rfl (by kernel_rfl) (fun _ _ _ h => h) (by first | (simp [Region.wanted,yielded]; done) | simp [Region.wanted,yielded,undef]) ?_ hS ?_
       rotate_left
       ·(intro w' hSw; (try dsimp only at hSw); go_simp; try with_reducible rfl)
       try simp only [Act.put,Sp1,Sp2,Sp3,Sp4,Sp5,Sp6]
       refine AnyG.takeGC (i:=7) (v:=?_) rfl (by kernel_rfl) (fun _ _ _ h => h) (by first | (simp [Region.wanted,yielded]; done) | simp [Region.wanted,yielded,undef]) ?_ hS ?_
       rotate_left
       ·(intro w' hSw; (try dsimp only at hSw); obtain ⟨x0,x1,xf,xz⟩:=(k2U.call hSw).two; go_simp; try with_reducible rfl)
       try simp only [Act.put,Sp1,Sp2,Sp3,Sp4,Sp5,Sp6]
       refine AnyG.takeGC (i:=8) (v:=?_) rfl (by kernel_rfl) (fun _ _ _ h => h) (by first | (simp [Region.wanted,yielded]; done) | simp [Region.wanted,yielded,undef]) ?_ hS ?_
       rotate_left
       ·(intro w' hSw; (try dsimp only at hSw); go_simp; try with_reducible rfl)
       try simp only [Act.put,Sp1,Sp2,Sp3,Sp4,Sp5,Sp6]
       refine AnyG.takeGC (i:=9) (v:=?_) rfl (by kernel_rfl) (fun _ _ _ h => h) (by first | (simp [Region.wanted,yielded]; done) | simp [Region.wanted,yielded,undef]) ?_ hS ?_
       rotate_left
       ·(intro w' hSw; (try dsimp only at hSw); obtain ⟨q0,q1,q2,qf,qz⟩:=(kb.call hSw).three; go_simp; try with_reducible rfl)
       try simp only [Act.put,Sp1,Sp2,Sp3,Sp4,Sp5,Sp6]
       refine AnyG.takeGC (i:=10) (v:=?_) rfl (by kernel_rfl) (fun _ _ _ h => h) (by first | (simp [Region.wanted,yielded]; done) | simp [Region.wanted,yielded,undef]) ?_ hS ?_
       rotate_left
       ·(intro w' hSw; (try dsimp only at hSw); go_simp; try with_reducible rfl)
       try simp only [Act.put,Sp1,Sp2,Sp3,Sp4,Sp5,Sp6]
       refine AnyG.takeGC (i:=11) (v:=?_) rfl (by kernel_rfl) (fun _ _ _ h => h) (by first | (simp [Region.wanted,yielded]; done) | simp [Region.wanted,yielded,undef]) ?_ hS ?_
       rotate_left
       ·(intro w' hSw; (try dsimp only at hSw); have qx:=cellC hSw hx; go_simp; try with_reducible rfl)
       try simp only [Act.put,Sp1,Sp2,Sp3,Sp4,Sp5,Sp6]
       refine AnyG.takeGC (i:=12) (v:=?_) rfl (by kernel_rfl) (fun _ _ _ h => h) (by first | (simp [Region.wanted,yielded]; done) | simp [Region.wanted,yielded,undef]) ?_ hS ?_
       rotate_left
       ·(intro w' hSw; (try dsimp only at hSw); go_simp; try with_reducible rfl)
       try simp only [Act.put,Sp1,Sp2,Sp3,Sp4,Sp5,Sp6]
       refine AnyG.takeGC (i:=13) (v:=?_) rfl (by kernel_rfl) (fun _ _ _ h => h) (by first | (simp [Region.wanted,yielded]; done) | simp [Region.wanted,yielded,undef]) ?_ hS ?_
       rotate_left
       ·(intro w' hSw; (try dsimp only at hSw); obtain ⟨x0,x1,xf,xz⟩:=(k2U.call hSw).two; go_simp; try with_reducible rfl)
       try simp only [Act.put,Sp1,Sp2,Sp3,Sp4,Sp5,Sp6]
       refine AnyG.takeGC (i:=14) (v:=?_) rfl (by kernel_rfl) (fun _ _ _ h => h) (by first | (simp [Region.wanted,yielded]; done) | simp [Region.wanted,yielded,undef]) ?_ hS ?_
       rotate_left
       ·(intro w' hSw; (try dsimp only at hSw); go_simp; try with_reducible rfl)
       try simp only [Act.put,Sp1,Sp2,Sp3,Sp4,Sp5,Sp6]
       refine AnyG.takeGC (i:=15) (v:=?_) rfl (by kernel_rfl) (fun _ _ _ h => h) (by first | (simp [Region.wanted,yielded]; done) | simp [Region.wanted,yielded,undef]) ?_ hS ?_
       rotate_left
       ·(intro w' hSw; (try dsimp only at hSw); obtain ⟨q0,q1,q2,qf,qz⟩:=(kb.call hSw).three; go_simp; try with_reducible rfl)
       try simp only [Act.put,Sp1,Sp2,Sp3,Sp4,Sp5,Sp6]
       refine AnyG.takeGC (i:=16) (v:=?_) rfl (by kernel_rfl) (fun _ _ _ h => h) (by first | (simp [Region.wanted,yielded]; done) | simp [Region.wanted,yielded,undef]) ?_ hS ?_
       rotate_left
       ·(intro w' hSw; (try dsimp only at hSw); go_simp; try with_reducible rfl)
       try simp only [Act.put,Sp1,Sp2,Sp3,Sp4,Sp5,Sp6]
       refine AnyG.takeGC (i:=17) (v:=?_) rfl (by kernel_rfl) (fun _ _ _ h => h) (by first | (simp [Region.wanted,yielded]; done) | simp [Region.wanted,yielded,undef]) ?_ hS ?_
       rotate_left
       ·(intro w' hSw; (try dsimp only at hSw); have qy:=cellC hSw hy; go_simp; try with_reducible rfl)
       try simp only [Act.put,Sp1,Sp2,Sp3,Sp4,Sp5,Sp6]
       refine AnyG.takeGC (i:=18) (v:=?_) rfl (by kernel_rfl) (fun _ _ _ h => h) (by first | (simp [Region.wanted,yielded]; done) | simp [Region.wanted,yielded,undef]) ?_ hS ?_
       rotate_left
       ·(intro w' hSw; (try dsimp only at hSw); go_simp; try with_reducible rfl)
       try simp only [Act.put,Sp1,Sp2,Sp3,Sp4,Sp5,Sp6]
       refine AnyG.oneC (i:=19) (by kernel_rfl) rfl (by first | (simp [Region.wanted,yielded]; done) | simp [Region.wanted,yielded,undef]) ?_
       go_simp
       refine (from65_same _ _ _ _).mono ?_
       rintro e19 y19 ⟨rfl,rfl⟩
       rw [H3.out]
       refine Onward.on hS (fun hS2 => ?_)
       clear hS
       have hS:=hS2
       clear hS2
       try simp only [Act.put,Sp1,Sp2,Sp3,Sp4,Sp5,Sp6]
       refine AnyG.takeGC (i:=20) (v:=?_) rfl (by kernel_rfl) (fun _ _ _ h => h) (by first | (simp [Region.wanted,yielded]; done) | simp [Region.wanted,yielded,undef]) ?_ hS ?_
       rotate_left
       ·(intro w' hSw; (try dsimp only at hSw); go_simp; try with_reducible rfl)
       try simp only [Act.put,Sp1,Sp2,Sp3,Sp4,Sp5,Sp6]
       refine AnyG.takeC (i:=21) (v:=?_) rfl (by kernel_rfl) (fun _ _ _ h => h) rfl ?_ hS ?_
       rotate_left
       ·(intro w' hSw; (try dsimp only at hSw); go_simp; try with_reducible rfl)
       try simp only [Act.put,Sp1,Sp2,Sp3,Sp4,Sp5,Sp6]
       refine AnyG.takeC (i:=22) (v:=?_) rfl (by kernel_rfl) (fun _ _ _ h => h) rfl ?_ hS ?_
       rotate_left
       ·(intro w' hSw; (try dsimp only at hSw); go_simp; try with_reducible rfl)
       try simp only [Act.put,Sp1,Sp2,Sp3,Sp4,Sp5,Sp6]
       refine AnyG.done (by kernel_rfl) ?_ _
       have hE : Below U.heap.size U _:=hS
       clear hS
       go_simp
       obtain ⟨q0,q1,q2,qf,qz⟩:=(kb.call hE).three
       go_wp2_with fail
       clear q0 q1 q2 qf qz
       refine AnyG.startC (by kernel_rfl) ?_
       refine AnyG.takeP (i:=2) (v:=?_) rfl (by kernel_rfl) (fun _ _ _ h => h) rfl ?_ ?_
       rotate_left
       ·(intro w'; go_simp; try with_reducible rfl)
       try simp only [Act.put,Sp1,Sp2,Sp3,Sp4,Sp5,Sp6]
       refine AnyG.takeP (i:=4) (v:=?_) rfl (by kernel_rfl) (fun _ _ _ h => h) rfl ?_ ?_
       rotate_left
       ·(intro w'; go_simp; try with_reducible rfl)
       try simp only [Act.put,Sp1,Sp2,Sp3,Sp4,Sp5,Sp6]
       refine AnyG.takeP (i:=7) (v:=?_) rfl (by kernel_rfl) (fun _ _ _ h => h) rfl ?_ ?_
       rotate_left
       ·(intro w'; go_simp; try with_reducible rfl)
       try simp only [Act.put,Sp1,Sp2,Sp3,Sp4,Sp5,Sp6]
       refine AnyG.takeP (i:=8) (v:=?_) rfl (by kernel_rfl) (fun _ _ _ h => h) rfl ?_ ?_
       rotate_left
       ·(intro w'; go_simp; try with_reducible rfl)
       try simp only [Act.put,Sp1,Sp2,Sp3,Sp4,Sp5,Sp6]
       refine AnyG.enter (fun w' : World => Below U.heap.size U w') (fun i => true) ?_
       have hS : (fun w' : World => Below U.heap.size U w') (World.drew _):=hE.drew
       refine AnyG.takeC (i:=0) (v:=?_) rfl (by kernel_rfl) (fun _ _ _ h => h) rfl ?_ hS ?_
       rotate_left
       ·(intro w' hSw; (try dsimp only at hSw); obtain ⟨l0,l1,l2,l3,lf2,lz⟩:=(k1U.call hSw).four; go_simp; try with_reducible rfl)
       try simp only [Act.put,Sp1,Sp2,Sp3,Sp4,Sp5,Sp6]
       refine AnyG.takeC (i:=1) (v:=?_) rfl (by kernel_rfl) (fun _ _ _ h => h) rfl ?_ hS ?_
       rotate_left
       ·(intro w' hSw; (try dsimp only at hSw); obtain ⟨x0,x1,xf,xz⟩:=(k2U.call hSw).two; go_simp; try with_reducible rfl)
       try simp only [Act.put,Sp1,Sp2,Sp3,Sp4,Sp5,Sp6]
       refine AnyG.takeC (i:=3) (v:=?_) rfl (by kernel_rfl) (fun _ _ _ h => h) rfl ?_ hS ?_
       rotate_left
       ·(intro w' hSw; (try dsimp only at hSw); obtain ⟨q0,q1,q2,qf,qz⟩:=(kb.call hSw).three; go_simp; try with_reducible rfl)
       try simp only [Act.put,Sp1,Sp2,Sp3,Sp4,Sp5,Sp6]
       refine AnyG.takeC (i:=5) (v:=?_) rfl (by kernel_rfl) (fun _ _ _ h => h) rfl ?_ hS ?_
       rotate_left
       ·(intro w' hSw; (try dsimp only at hSw); obtain ⟨q0,q1,q2,qf,qz⟩:=(kb.call hSw).three; go_simp; try with_reducible rfl)
       try simp only [Act.put,Sp1,Sp2,Sp3,Sp4,Sp5,Sp6]
       refine AnyG.one (i:=6) (by kernel_rfl) rfl rfl ?_
       go_simp
       refine (refFirst_any (some sa) (some ta) bn sc tc Lo Hi m ct _ hbn4 HLO.out HHI.out (hSU.call hS) (hTU.call hS) hmb (by omega) (by omega)).mono ?_
       rintro e6 y6 ⟨⟨A6,c6,rfl,hN6⟩,hb6⟩
       refine Onward.on (hS.trans (hb6.mono hS.size)) (fun hS2 => ?_)
       clear hS
       have hS:=hS2
       clear hS2
       try simp only [Act.put,Sp1,Sp2,Sp3,Sp4,Sp5,Sp6]
       refine AnyG.one (i:=9) (by kernel_rfl) rfl rfl ?_
       go_simp
       have ihx:=IH.out Lo (Hi.set m ct) (some sa) A6 sc c6 L NA (pc - 1) _ wl HXL.out HLO.out HL1.out (hAU.call hS) (hSU.call hS) hN6 (hPU.call hS) (by rw [HLN.out]; omega) (by rw [HLN.out]; omega)
       rw [HLN.out] at ihx
       refine ihx.mono ?_
       clear ihx
       rintro e9 y9 ⟨⟨v9,rfl,hv1,hv0⟩,hb9⟩
       refine Onward.on (hS.trans (hb9.mono hS.size)) (fun hS2 => ?_)
       clear hS
       have hS:=hS2
       clear hS2
       try simp only [Act.put,Sp1,Sp2,Sp3,Sp4,Sp5,Sp6]
       refine AnyG.takeC (i:=10) (v:=?_) rfl (by kernel_rfl) (fun _ _ _ h => h) rfl ?_ hS ?_
       rotate_left
       ·(intro w' hSw; (try dsimp only at hSw); go_simp; try with_reducible rfl)
       try simp only [Act.put,Sp1,Sp2,Sp3,Sp4,Sp5,Sp6]
       refine AnyG.takeC (i:=11) (v:=?_) rfl (by kernel_rfl) (fun _ _ _ h => h) rfl ?_ hS ?_
       rotate_left
       ·(intro w' hSw; (try dsimp only at hSw); go_simp; try with_reducible rfl)
       try simp only [Act.put,Sp1,Sp2,Sp3,Sp4,Sp5,Sp6]
       refine AnyG.takeC (i:=12) (v:=?_) rfl (by kernel_rfl) (fun _ _ _ h => h) rfl ?_ hS ?_
       rotate_left
       ·(intro w' hSw; (try dsimp only at hSw); go_simp; try with_reducible rfl)
       try simp only [Act.put,Sp1,Sp2,Sp3,Sp4,Sp5,Sp6]
       refine AnyG.takeC (i:=13) (v:=?_) rfl (by kernel_rfl) (fun _ _ _ h => h) rfl ?_ hS ?_
       rotate_left
       ·(intro w' hSw; (try dsimp only at hSw); go_simp; try with_reducible rfl)
       try simp only [Act.put,Sp1,Sp2,Sp3,Sp4,Sp5,Sp6]
       refine AnyG.takeC (i:=14) (v:=?_) rfl (by kernel_rfl) (fun _ _ _ h => h) rfl ?_ hS ?_
       rotate_left
       ·(intro w' hSw; (try dsimp only at hSw); go_simp; try with_reducible rfl)
       try simp only [Act.put,Sp1,Sp2,Sp3,Sp4,Sp5,Sp6]
       refine AnyG.done (by kernel_rfl) ?_ _
       have hE9 : Below U.heap.size U y9:=hS
       clear hS
       go_simp
       obtain ⟨R5,hR5d⟩ : ∃ x,vfy o p fuel (lf Lo) (lf (Hi.set m ct)) L = x:=⟨_,rfl⟩
       rw [hR5d] at hv1 hv0 HEV hvl ⊢
       clear hR5d
       obtain ⟨L5,e5⟩:=R5
       dsimp only at hv1 hv0 HEV hvl ⊢
       by_cases h5 : e5 = 0
       ·subst h5
        obtain ⟨RA,rc,rfl,hrc5,hR5⟩:=hv0 rfl
        have hev2 : vfy o p (fuel + 1) (lf Lo) (lf Hi) (⟨1,(m : Int),ct⟩ :: L) = vfy o p fuel (lf (Lo.set m (ct + 1))) (lf Hi) L5:=by rw [HEV.out,if_neg (fun h => h rfl)]
        have HEV2:=Lib.hid hev2
        have hl95 : L5.length ≤ 9000000000000000000:=Nat.le_trans hvl (Nat.le_trans (Nat.sub_le n 1) hL9)
        clear hev2 HEV hv1 hv0
        obtain ⟨n5,hn5⟩ : ∃ k,L5.length = k:=⟨_,rfl⟩
        have HN5:=Lib.hid hn5
        rw [hn5] at hrc5 hl95 ⊢
        clear hn5
        go_wp2_with fail
        refine AnyG.startC (by kernel_rfl) ?_
        refine AnyG.takeP (i:=2) (v:=?_) rfl (by kernel_rfl) (fun _ _ _ h => h) rfl ?_ ?_
        rotate_left
        ·(intro w'; go_simp; try with_reducible rfl)
        try simp only [Act.put,Sp1,Sp2,Sp3,Sp4,Sp5,Sp6]
        refine AnyG.takeP (i:=4) (v:=?_) rfl (by kernel_rfl) (fun _ _ _ h => h) rfl ?_ ?_
        rotate_left
        ·(intro w'; go_simp; try with_reducible rfl)
        try simp only [Act.put,Sp1,Sp2,Sp3,Sp4,Sp5,Sp6]
        refine AnyG.takeP (i:=7) (v:=?_) rfl (by kernel_rfl) (fun _ _ _ h => h) rfl ?_ ?_
        rotate_left
        ·(intro w'; go_simp; try with_reducible rfl)
        try simp only [Act.put,Sp1,Sp2,Sp3,Sp4,Sp5,Sp6]
        refine AnyG.takeP (i:=8) (v:=?_) rfl (by kernel_rfl) (fun _ _ _ h => h) rfl ?_ ?_
        rotate_left
        ·(intro w'; go_simp; try with_reducible rfl)
        try simp only [Act.put,Sp1,Sp2,Sp3,Sp4,Sp5,Sp6]
        refine AnyG.enter (fun w' : World => Below y9.heap.size y9 w' ∧ Below U.heap.size U w') (fun i => true) ?_
        have hS : (fun w' : World => Below y9.heap.size y9 w' ∧ Below U.heap.size U w') (World.drew _):=⟨(Below.refl _ _).drew,hE9.drew⟩
        refine AnyG.takeC (i:=0) (v:=?_) rfl (by kernel_rfl) (fun _ _ _ h => h) rfl ?_ hS ?_
        rotate_left
        ·(intro w' hSw; (try dsimp only at hSw); obtain ⟨l0,l1,l2,l3,lf2,lz⟩:=(k1U.call hSw.2).four; go_simp; try with_reducible rfl)
        try simp only [Act.put,Sp1,Sp2,Sp3,Sp4,Sp5,Sp6]
        refine AnyG.takeC (i:=1) (v:=?_) rfl (by kernel_rfl) (fun _ _ _ h => h) rfl ?_ hS ?_
        rotate_left
        ·(intro w' hSw; (try dsimp only at hSw); obtain ⟨x0,x1,xf,xz⟩:=(k2U.call hSw.2).two; go_simp; try with_reducible rfl)
        try simp only [Act.put,Sp1,Sp2,Sp3,Sp4,Sp5,Sp6]
        refine AnyG.takeC (i:=3) (v:=?_) rfl (by kernel_rfl) (fun _ _ _ h => h) rfl ?_ hS ?_
        rotate_left
        ·(intro w' hSw; (try dsimp only at hSw); obtain ⟨q0,q1,q2,qf,qz⟩:=(kb.call hSw.2).three; go_simp; try with_reducible rfl)
        try simp only [Act.put,Sp1,Sp2,Sp3,Sp4,Sp5,Sp6]
        refine AnyG.takeC (i:=5) (v:=?_) rfl (by kernel_rfl) (fun _ _ _ h => h) rfl ?_ hS ?_
        rotate_left
        ·(intro w' hSw; (try dsimp only at hSw); obtain ⟨q0,q1,q2,qf,qz⟩:=(kb.call hSw.2).three; go_simp; try with_reducible rfl)
        try simp only [Act.put,Sp1,Sp2,Sp3,Sp4,Sp5,Sp6]
        refine AnyG.one (i:=6) (by kernel_rfl) rfl rfl ?_
        go_simp
        refine (refSecond_any (some sa) (some ta) bn sc tc Lo Hi m ct _ hbn4 HLO.out HHI.out (hSU.call hS.2) (hTU.call hS.2) hmb (by omega) (by omega)).mono ?_
        rintro e6 y6b ⟨⟨A6,c6,rfl,hN6⟩,hb6⟩
        refine Onward.on (show _ ∧ _ from ⟨hS.1.trans (hb6.mono hS.1.size),hS.2.trans (hb6.mono hS.2.size)⟩) (fun hS2 => ?_)
        clear hS
        have hS:=hS2
        clear hS2
        try simp only [Act.put,Sp1,Sp2,Sp3,Sp4,Sp5,Sp6]
        refine AnyG.one (i:=9) (by kernel_rfl) rfl rfl ?_
        go_simp
        have ihx:=IH.out (Lo.set m (ct + 1)) Hi A6 (some ta) c6 tc L5 RA rc _ wu HXU.out HL2.out HHI.out (hAU.call hS.2) hN6 (hTU.call hS.2) (hR5.call hS.1) (by rw [HN5.out]; exact hrc5) (by rw [HN5.out]; exact hl95)
        rw [HN5.out] at ihx
        refine ihx.mono ?_
        clear ihx
        rintro e9 y9b ⟨⟨u9,rfl,hu1,hu0⟩,hb9⟩
        refine Onward.on (show _ ∧ _ from ⟨hS.1.trans (hb9.mono hS.1.size),hS.2.trans (hb9.mono hS.2.size)⟩) (fun hS2 => ?_)
        clear hS
        have hS:=hS2
        clear hS2
        try simp only [Act.put,Sp1,Sp2,Sp3,Sp4,Sp5,Sp6]
        refine AnyG.takeC (i:=10) (v:=?_) rfl (by kernel_rfl) (fun _ _ _ h => h) rfl ?_ hS ?_
        rotate_left
        ·(intro w' hSw; (try dsimp only at hSw); go_simp; try with_reducible rfl)
        try simp only [Act.put,Sp1,Sp2,Sp3,Sp4,Sp5,Sp6]
        refine AnyG.takeC (i:=11) (v:=?_) rfl (by kernel_rfl) (fun _ _ _ h => h) rfl ?_ hS ?_
        rotate_left
        ·(intro w' hSw; (try dsimp only at hSw); go_simp; try with_reducible rfl)
        try simp only [Act.put,Sp1,Sp2,Sp3,Sp4,Sp5,Sp6]
        refine AnyG.takeC (i:=12) (v:=?_) rfl (by kernel_rfl) (fun _ _ _ h => h) rfl ?_ hS ?_
        rotate_left
        ·(intro w' hSw; (try dsimp only at hSw); go_simp; try with_reducible rfl)
        try simp only [Act.put,Sp1,Sp2,Sp3,Sp4,Sp5,Sp6]
        refine AnyG.takeC (i:=13) (v:=?_) rfl (by kernel_rfl) (fun _ _ _ h => h) rfl ?_ hS ?_
        rotate_left
        ·(intro w' hSw; (try dsimp only at hSw); go_simp; try with_reducible rfl)
        try simp only [Act.put,Sp1,Sp2,Sp3,Sp4,Sp5,Sp6]
        refine AnyG.done (by kernel_rfl) ?_ _
        have hEF : Below U.heap.size U y9b:=hS.2
        clear hS
        go_simp
        go_wp2_with fail
        refine bodyPost_ret (v:=.tuple #[u9,.int .i64 (vfy o p fuel (lf (Lo.set m (ct + 1))) (lf Hi) L5).2]) (by simp [results,Try.results80,go_sem]) rfl ⟨⟨u9,by rw [HEV2.out],by rw [HEV2.out]; exact hu1,by rw [HEV2.out]; exact hu0⟩,BU.trans (hEF.mono BU.size)⟩
       ·have d5 : (e5 == 0) = false:=by simp; exact h5
        have hev2 : vfy o p (fuel + 1) (lf Lo) (lf Hi) (⟨1,(m : Int),ct⟩ :: L) = (L5,e5):=by rw [HEV.out,if_pos h5]
        have HEV2:=Lib.hid hev2
        have HV1:=Lib.hid (hv1 h5)
        have H5:=Lib.hid h5
        clear hev2 HEV hv1 hv0 h5
        go_wp2_with fail
        refine bodyPost_ret (v:=.tuple #[.slice none 0 0,.int .i64 e5]) (by simp [results,Try.results80,go_sem]) rfl ⟨⟨_,by rw [HEV2.out],fun _ => rfl,fun h => by rw [HEV2.out] at h; exact absurd h H5.out⟩,BU.trans (hE9.mono BU.size)⟩
      ·have H3:=Lib.hid (decide_eq_false hct)
       have hck : ckBd o p (lf Lo) (lf Hi) ⟨1,(m : Int),ct⟩ = 1:=by
        unfold ckBd
        dsimp only
        rw [if_pos rfl,if_neg (by rw [HB.out]; omega),Int.toNat_natCast,HXY.out.1,HXY.out.2,if_pos (by omega)]
       have HCK:=Lib.hid (vry_bad (n:=fuel) (L:=L) hck (by decide))
       clear hct hck
       go_upto_region 9 with (first | (go_at_call 65; refine (from65_same _ _ _ _).mono ?_; rintro e w2 ⟨rfl,rfl⟩; first | rw [H1.out] | rw [H2.out]) | fail)
       clear q0 q1 q2 qf qz l0 l1 l2 l3 lf' lz x0 x1 xf xz
       go_wp2_with fail
       refine AnyG.startC (by kernel_rfl) ?_
       refine AnyG.takeP (i:=0) (v:=?_) rfl (by kernel_rfl) (fun _ _ _ h => h) rfl ?_ ?_
       rotate_left
       ·(intro w'; go_simp; try with_reducible rfl)
       try simp only [Act.put,Sp1,Sp2,Sp3,Sp4,Sp5,Sp6]
       refine AnyG.enter (fun w' : World => Below U.heap.size U w') (fun i => true) ?_
       have hS : (fun w' : World => Below U.heap.size U w') (World.drew _):=(Below.refl _ _).drew
       refine AnyG.takeC (i:=1) (v:=?_) rfl (by kernel_rfl) (fun _ _ _ h => h) rfl ?_ hS ?_
       rotate_left
       ·(intro w' hSw; (try dsimp only at hSw); obtain ⟨q0,q1,q2,qf,qz⟩:=(kb.call hSw).three; go_simp; try with_reducible rfl)
       try simp only [Act.put,Sp1,Sp2,Sp3,Sp4,Sp5,Sp6]
       refine AnyG.takeC (i:=2) (v:=?_) rfl (by kernel_rfl) (fun _ _ _ h => h) rfl ?_ hS ?_
       rotate_left
       ·(intro w' hSw; (try dsimp only at hSw); go_simp; try with_reducible rfl)
       try simp only [Act.put,Sp1,Sp2,Sp3,Sp4,Sp5,Sp6]
       refine AnyG.takeC (i:=3) (v:=?_) rfl (by kernel_rfl) (fun _ _ _ h => h) rfl ?_ hS ?_
       rotate_left
       ·(intro w' hSw; (try dsimp only at hSw); go_simp; try with_reducible rfl)
       try simp only [Act.put,Sp1,Sp2,Sp3,Sp4,Sp5,Sp6]
       refine AnyG.takeGC (i:=4) (v:=?_) rfl (by kernel_rfl) (fun _ _ _ h => h) (by first | (simp [Region.wanted,yielded]; done) | simp [Region.wanted,yielded,undef]) ?_ hS ?_
       rotate_left
       ·(intro w' hSw; (try dsimp only at hSw); go_simp; try with_reducible rfl)
       try simp only [Act.put,Sp1,Sp2,Sp3,Sp4,Sp5,Sp6]
       refine AnyG.takeGC (i:=5) (v:=?_) rfl (by kernel_rfl) (fun _ _ _ h => h) (by first | (simp [Region.wanted,yielded]; done) | simp [Region.wanted,yielded,undef]) ?_ hS ?_
       rotate_left
       ·(intro w' hSw; (try dsimp only at hSw); obtain ⟨q0,q1,q2,qf,qz⟩:=(kb.call hSw).three; go_simp; try with_reducible rfl)
       try simp only [Act.put,Sp1,Sp2,Sp3,Sp4,Sp5,Sp6]
       refine AnyG.takeGC (i:=6) (v:=?_) rfl (by kernel_rfl) (fun _ _ _ h => h) (by first | (simp [Region.wanted,yielded]; done) | simp [Region.wanted,yielded,undef]) ?_ hS ?_
       rotate_left
       ·(intro w' hSw; (try dsimp only at hSw); go_simp; try with_reducible rfl)
       try simp only [Act.put,Sp1,Sp2,Sp3,Sp4,Sp5,Sp6]
       refine AnyG.takeGC (i:=7) (v:=?_) rfl (by kernel_rfl) (fun _ _ _ h => h) (by first | (simp [Region.wanted,yielded]; done) | simp [Region.wanted,yielded,undef]) ?_ hS ?_
       rotate_left
       ·(intro w' hSw; (try dsimp only at hSw); obtain ⟨x0,x1,xf,xz⟩:=(k2U.call hSw).two; go_simp; try with_reducible rfl)
       try simp only [Act.put,Sp1,Sp2,Sp3,Sp4,Sp5,Sp6]
       refine AnyG.takeGC (i:=8) (v:=?_) rfl (by kernel_rfl) (fun _ _ _ h => h) (by first | (simp [Region.wanted,yielded]; done) | simp [Region.wanted,yielded,undef]) ?_ hS ?_
       rotate_left
       ·(intro w' hSw; (try dsimp only at hSw); go_simp; try with_reducible rfl)
       try simp only [Act.put,Sp1,Sp2,Sp3,Sp4,Sp5,Sp6]
       refine AnyG.takeGC (i:=9) (v:=?_) rfl (by kernel_rfl) (fun _ _ _ h => h) (by first | (simp [Region.wanted,yielded]; done) | simp [Region.wanted,yielded,undef]) ?_ hS ?_
       rotate_left
       ·(intro w' hSw; (try dsimp only at hSw); obtain ⟨q0,q1,q2,qf,qz⟩:=(kb.call hSw).three; go_simp; try with_reducible rfl)
       try simp only [Act.put,Sp1,Sp2,Sp3,Sp4,Sp5,Sp6]
       refine AnyG.takeGC (i:=10) (v:=?_) rfl (by kernel_rfl) (fun _ _ _ h => h) (by first | (simp [Region.wanted,yielded]; done) | simp [Region.wanted,yielded,undef]) ?_ hS ?_
       rotate_left
       ·(intro w' hSw; (try dsimp only at hSw); go_simp; try with_reducible rfl)
       try simp only [Act.put,Sp1,Sp2,Sp3,Sp4,Sp5,Sp6]
       refine AnyG.takeGC (i:=11) (v:=?_) rfl (by kernel_rfl) (fun _ _ _ h => h) (by first | (simp [Region.wanted,yielded]; done) | simp [Region.wanted,yielded,undef]) ?_ hS ?_
       rotate_left
       ·(intro w' hSw; (try dsimp only at hSw); have qx:=cellC hSw hx; go_simp; try with_reducible rfl)
       try simp only [Act.put,Sp1,Sp2,Sp3,Sp4,Sp5,Sp6]
       refine AnyG.takeGC (i:=12) (v:=?_) rfl (by kernel_rfl) (fun _ _ _ h => h) (by first | (simp [Region.wanted,yielded]; done) | simp [Region.wanted,yielded,undef]) ?_ hS ?_
       rotate_left
       ·(intro w' hSw; (try dsimp only at hSw); go_simp; try with_reducible rfl)
       try simp only [Act.put,Sp1,Sp2,Sp3,Sp4,Sp5,Sp6]
       refine AnyG.takeGC (i:=13) (v:=?_) rfl (by kernel_rfl) (fun _ _ _ h => h) (by first | (simp [Region.wanted,yielded]; done) | simp [Region.wanted,yielded,undef]) ?_ hS ?_
       rotate_left
       ·(intro w' hSw; (try dsimp only at hSw); obtain ⟨x0,x1,xf,xz⟩:=(k2U.call hSw).two; go_simp; try with_reducible rfl)
       try simp only [Act.put,Sp1,Sp2,Sp3,Sp4,Sp5,Sp6]
       refine AnyG.takeGC (i:=14) (v:=?_) rfl (by kernel_rfl) (fun _ _ _ h => h) (by first | (simp [Region.wanted,yielded]; done) | simp [Region.wanted,yielded,undef]) ?_ hS ?_
       rotate_left
       ·(intro w' hSw; (try dsimp only at hSw); go_simp; try with_reducible rfl)
       try simp only [Act.put,Sp1,Sp2,Sp3,Sp4,Sp5,Sp6]
       refine AnyG.takeGC (i:=15) (v:=?_) rfl (by kernel_rfl) (fun _ _ _ h => h) (by first | (simp [Region.wanted,yielded]; done) | simp [Region.wanted,yielded,undef]) ?_ hS ?_
       rotate_left
       ·(intro w' hSw; (try dsimp only at hSw); obtain ⟨q0,q1,q2,qf,qz⟩:=(kb.call hSw).three; go_simp; try with_reducible rfl)
       try simp only [Act.put,Sp1,Sp2,Sp3,Sp4,Sp5,Sp6]
       refine AnyG.takeGC (i:=16) (v:=?_) rfl (by kernel_rfl) (fun _ _ _ h => h) (by first | (simp [Region.wanted,yielded]; done) | simp [Region.wanted,yielded,undef]) ?_ hS ?_
       rotate_left
       ·(intro w' hSw; (try dsimp only at hSw); go_simp; try with_reducible rfl)
       try simp only [Act.put,Sp1,Sp2,Sp3,Sp4,Sp5,Sp6]
       refine AnyG.takeGC (i:=17) (v:=?_) rfl (by kernel_rfl) (fun _ _ _ h => h) (by first | (simp [Region.wanted,yielded]; done) | simp [Region.wanted,yielded,undef]) ?_ hS ?_
       rotate_left
       ·(intro w' hSw; (try dsimp only at hSw); have qy:=cellC hSw hy; go_simp; try with_reducible rfl)
       try simp only [Act.put,Sp1,Sp2,Sp3,Sp4,Sp5,Sp6]
       refine AnyG.takeGC (i:=18) (v:=?_) rfl (by kernel_rfl) (fun _ _ _ h => h) (by first | (simp [Region.wanted,yielded]; done) | simp [Region.wanted,yielded,undef]) ?_ hS ?_
       rotate_left
       ·(intro w' hSw; (try dsimp only at hSw); go_simp; try with_reducible rfl)
       try simp only [Act.put,Sp1,Sp2,Sp3,Sp4,Sp5,Sp6]
       refine AnyG.oneC (i:=19) (by kernel_rfl) rfl (by first | (simp [Region.wanted,yielded]; done) | simp [Region.wanted,yielded,undef]) ?_
       go_simp
       refine (from65_same _ _ _ _).mono ?_
       rintro e19 y19 ⟨rfl,rfl⟩
       rw [H3.out]
       refine Onward.on hS (fun hS2 => ?_)
       clear hS
       have hS:=hS2
       clear hS2
       try simp only [Act.put,Sp1,Sp2,Sp3,Sp4,Sp5,Sp6]
       refine AnyG.takeGC (i:=20) (v:=?_) rfl (by kernel_rfl) (fun _ _ _ h => h) (by first | (simp [Region.wanted,yielded]; done) | simp [Region.wanted,yielded,undef]) ?_ hS ?_
       rotate_left
       ·(intro w' hSw; (try dsimp only at hSw); go_simp; try with_reducible rfl)
       try simp only [Act.put,Sp1,Sp2,Sp3,Sp4,Sp5,Sp6]
       refine AnyG.takeC (i:=21) (v:=?_) rfl (by kernel_rfl) (fun _ _ _ h => h) rfl ?_ hS ?_
       rotate_left
       ·(intro w' hSw; (try dsimp only at hSw); go_simp; try with_reducible rfl)
       try simp only [Act.put,Sp1,Sp2,Sp3,Sp4,Sp5,Sp6]
       refine AnyG.takeC (i:=22) (v:=?_) rfl (by kernel_rfl) (fun _ _ _ h => h) rfl ?_ hS ?_
       rotate_left
       ·(intro w' hSw; (try dsimp only at hSw); go_simp; try with_reducible rfl)
       try simp only [Act.put,Sp1,Sp2,Sp3,Sp4,Sp5,Sp6]
       refine AnyG.done (by kernel_rfl) ?_ _
       have hE : Below U.heap.size U _:=hS
       clear hS
       go_simp
       obtain ⟨q0,q1,q2,qf,qz⟩:=(kb.call hE).three
       obtain ⟨l0,l1,l2,l3,lf',lz⟩:=(k1U.call hE).four
       obtain ⟨x0,x1,xf,xz⟩:=(k2U.call hE).two
       go_wp2_with fail
       refine bodyPost_ret (v:=.tuple #[.slice none 0 0,.int .i64 1]) (by simp [results,Try.results80,go_sem]) rfl ⟨⟨_,by rw [HCK.out],fun _ => rfl,fun h => by rw [HCK.out] at h; simp at h⟩,BU.trans (hE.mono BU.size)⟩
     ·have H2:=Lib.hid (decide_eq_false hat)
      have hck : ckBd o p (lf Lo) (lf Hi) ⟨1,at_,ct⟩ = 3:=by
       unfold ckBd
       dsimp only
       rw [if_pos rfl,if_pos (by rw [HB.out]; omega)]
      have HCK:=Lib.hid (vry_bad (n:=fuel) (L:=L) hck (by decide))
      clear hat h15 hck
      go_wp2_with (first | (go_at_call 65; refine (from65_same _ _ _ _).mono ?_; rintro e w2 ⟨rfl,rfl⟩; first | rw [H1.out] | rw [H2.out]) | fail)
      refine bodyPost_ret (v:=.tuple #[.slice none 0 0,.int .i64 3]) (by simp [results,Try.results80,go_sem]) rfl ⟨⟨_,by rw [HCK.out],fun _ => rfl,fun h => by rw [HCK.out] at h; simp at h⟩,BU⟩
    ·have d1 : (rs == 1) = false:=by simp; exact h1
     by_cases h4 : rs = 4
     ·subst h4
      by_cases hat : 0 ≤ at_ ∧ at_ ≤ (ln : Int) - 1
      ·have H2:=Lib.hid (decide_eq_true hat)
       have hra : (4 : Int) = 4 → 0 ≤ at_ ∧ at_ < ln:=fun _ => by omega
       have HRA:=Lib.hid hra
       have hck : ckBd o p (lf Lo) (lf Hi) ⟨4,at_,ct⟩ = if RightB o p (lf Lo) (lf Hi) ⟨4,at_,ct⟩ = true then 0 else 9:=by
        unfold ckBd
        dsimp only
        rw [if_neg (by omega),if_neg (by rw [HL.out]; omega),if_neg (by omega)]
       have HCK:=Lib.hid hck
       clear hat h15 hck hra
       go_upto_region 9 with (first | (go_at_call 65; refine (from65_same _ _ _ _).mono ?_; rintro e w2 ⟨rfl,rfl⟩; first | rw [H1.out] | rw [H2.out]) | fail)
       clear q0 q1 q2 qf qz l0 l1 l2 l3 lf' lz x0 x1 xf xz
       go_wp2_with fail
       refine AnyG.startC (by kernel_rfl) ?_
       refine AnyG.takeP (i:=0) (v:=?_) rfl (by kernel_rfl) (fun _ _ _ h => h) rfl ?_ ?_
       rotate_left
       ·(intro w'; go_simp; try with_reducible rfl)
       try simp only [Act.put,Sp1,Sp2,Sp3,Sp4,Sp5,Sp6]
       refine AnyG.enter (fun w' : World => Below U.heap.size U w') (fun i => true) ?_
       have hS : (fun w' : World => Below U.heap.size U w') (World.drew _):=(Below.refl _ _).drew
       refine AnyG.takeC (i:=1) (v:=?_) rfl (by kernel_rfl) (fun _ _ _ h => h) rfl ?_ hS ?_
       rotate_left
       ·(intro w' hSw; (try dsimp only at hSw); obtain ⟨q0,q1,q2,qf,qz⟩:=(kb.call hSw).three; go_simp; try with_reducible rfl)
       try simp only [Act.put,Sp1,Sp2,Sp3,Sp4,Sp5,Sp6]
       refine AnyG.takeC (i:=2) (v:=?_) rfl (by kernel_rfl) (fun _ _ _ h => h) rfl ?_ hS ?_
       rotate_left
       ·(intro w' hSw; (try dsimp only at hSw); go_simp; try with_reducible rfl)
       try simp only [Act.put,Sp1,Sp2,Sp3,Sp4,Sp5,Sp6]
       refine AnyG.takeC (i:=3) (v:=?_) rfl (by kernel_rfl) (fun _ _ _ h => h) rfl ?_ hS ?_
       rotate_left
       ·(intro w' hSw; (try dsimp only at hSw); go_simp; try with_reducible rfl)
       try simp only [Act.put,Sp1,Sp2,Sp3,Sp4,Sp5,Sp6]
       refine AnyG.takeNC (i:=4) rfl (by kernel_rfl) (fun _ _ _ h => h) (by first | (simp [Region.wanted,yielded]; done) | simp [Region.wanted,yielded,undef]) hS ?_
       try simp only [Act.put,Sp1,Sp2,Sp3,Sp4,Sp5,Sp6]
       refine AnyG.takeNC (i:=5) rfl (by kernel_rfl) (fun _ _ _ h => h) (by first | (simp [Region.wanted,yielded]; done) | simp [Region.wanted,yielded,undef]) hS ?_
       try simp only [Act.put,Sp1,Sp2,Sp3,Sp4,Sp5,Sp6]
       refine AnyG.takeNC (i:=6) rfl (by kernel_rfl) (fun _ _ _ h => h) (by first | (simp [Region.wanted,yielded]; done) | simp [Region.wanted,yielded,undef]) hS ?_
       try simp only [Act.put,Sp1,Sp2,Sp3,Sp4,Sp5,Sp6]
       refine AnyG.takeNC (i:=7) rfl (by kernel_rfl) (fun _ _ _ h => h) (by first | (simp [Region.wanted,yielded]; done) | simp [Region.wanted,yielded,undef]) hS ?_
       try simp only [Act.put,Sp1,Sp2,Sp3,Sp4,Sp5,Sp6]
       refine AnyG.takeNC (i:=8) rfl (by kernel_rfl) (fun _ _ _ h => h) (by first | (simp [Region.wanted,yielded]; done) | simp [Region.wanted,yielded,undef]) hS ?_
       try simp only [Act.put,Sp1,Sp2,Sp3,Sp4,Sp5,Sp6]
       refine AnyG.takeNC (i:=9) rfl (by kernel_rfl) (fun _ _ _ h => h) (by first | (simp [Region.wanted,yielded]; done) | simp [Region.wanted,yielded,undef]) hS ?_
       try simp only [Act.put,Sp1,Sp2,Sp3,Sp4,Sp5,Sp6]
       refine AnyG.takeNC (i:=10) rfl (by kernel_rfl) (fun _ _ _ h => h) (by first | (simp [Region.wanted,yielded]; done) | simp [Region.wanted,yielded,undef]) hS ?_
       try simp only [Act.put,Sp1,Sp2,Sp3,Sp4,Sp5,Sp6]
       refine AnyG.takeNC (i:=11) rfl (by kernel_rfl) (fun _ _ _ h => h) (by first | (simp [Region.wanted,yielded]; done) | simp [Region.wanted,yielded,undef]) hS ?_
       try simp only [Act.put,Sp1,Sp2,Sp3,Sp4,Sp5,Sp6]
       refine AnyG.takeNC (i:=12) rfl (by kernel_rfl) (fun _ _ _ h => h) (by first | (simp [Region.wanted,yielded]; done) | simp [Region.wanted,yielded,undef]) hS ?_
       try simp only [Act.put,Sp1,Sp2,Sp3,Sp4,Sp5,Sp6]
       refine AnyG.takeNC (i:=13) rfl (by kernel_rfl) (fun _ _ _ h => h) (by first | (simp [Region.wanted,yielded]; done) | simp [Region.wanted,yielded,undef]) hS ?_
       try simp only [Act.put,Sp1,Sp2,Sp3,Sp4,Sp5,Sp6]
       refine AnyG.takeNC (i:=14) rfl (by kernel_rfl) (fun _ _ _ h => h) (by first | (simp [Region.wanted,yielded]; done) | simp [Region.wanted,yielded,undef]) hS ?_
       try simp only [Act.put,Sp1,Sp2,Sp3,Sp4,Sp5,Sp6]
       refine AnyG.takeNC (i:=15) rfl (by kernel_rfl) (fun _ _ _ h => h) (by first | (simp [Region.wanted,yielded]; done) | simp [Region.wanted,yielded,undef]) hS ?_
       try simp only [Act.put,Sp1,Sp2,Sp3,Sp4,Sp5,Sp6]
       refine AnyG.takeNC (i:=16) rfl (by kernel_rfl) (fun _ _ _ h => h) (by first | (simp [Region.wanted,yielded]; done) | simp [Region.wanted,yielded,undef]) hS ?_
       try simp only [Act.put,Sp1,Sp2,Sp3,Sp4,Sp5,Sp6]
       refine AnyG.takeNC (i:=17) rfl (by kernel_rfl) (fun _ _ _ h => h) (by first | (simp [Region.wanted,yielded]; done) | simp [Region.wanted,yielded,undef]) hS ?_
       try simp only [Act.put,Sp1,Sp2,Sp3,Sp4,Sp5,Sp6]
       refine AnyG.takeNC (i:=18) rfl (by kernel_rfl) (fun _ _ _ h => h) (by first | (simp [Region.wanted,yielded]; done) | simp [Region.wanted,yielded,undef]) hS ?_
       try simp only [Act.put,Sp1,Sp2,Sp3,Sp4,Sp5,Sp6]
       refine AnyG.takeNC (i:=19) rfl (by kernel_rfl) (fun _ _ _ h => h) (by first | (simp [Region.wanted,yielded]; done) | simp [Region.wanted,yielded,undef]) hS ?_
       try simp only [Act.put,Sp1,Sp2,Sp3,Sp4,Sp5,Sp6]
       refine AnyG.takeNC (i:=20) rfl (by kernel_rfl) (fun _ _ _ h => h) (by first | (simp [Region.wanted,yielded]; done) | simp [Region.wanted,yielded,undef]) hS ?_
       try simp only [Act.put,Sp1,Sp2,Sp3,Sp4,Sp5,Sp6]
       refine AnyG.takeC (i:=21) (v:=?_) rfl (by kernel_rfl) (fun _ _ _ h => h) rfl ?_ hS ?_
       rotate_left
       ·(intro w' hSw; (try dsimp only at hSw); go_simp; try with_reducible rfl)
       try simp only [Act.put,Sp1,Sp2,Sp3,Sp4,Sp5,Sp6]
       refine AnyG.takeC (i:=22) (v:=?_) rfl (by kernel_rfl) (fun _ _ _ h => h) rfl ?_ hS ?_
       rotate_left
       ·(intro w' hSw; (try dsimp only at hSw); go_simp; try with_reducible rfl)
       try simp only [Act.put,Sp1,Sp2,Sp3,Sp4,Sp5,Sp6]
       refine AnyG.done (by kernel_rfl) ?_ _
       have hE : Below U.heap.size U U.drew:=(Below.refl _ _).drew
       go_simp
       obtain ⟨q0,q1,q2,qf,qz⟩:=(kb.call hE).three
       obtain ⟨l0,l1,l2,l3,lf',lz⟩:=(k1U.call hE).four
       obtain ⟨x0,x1,xf,xz⟩:=(k2U.call hE).two
       have hrt:=right_any LA ln lc BA bn bc o SA TA sc tc Lo Hi p ⟨4,at_,ct⟩ U.drew HL.out HB.out (hAU.call hE) HO.out HLO.out HHI.out (hSU.call hE) (hTU.call hE) HX.out (by dsimp only; omega) (by dsimp only; omega) (fun _ => HRA.out trivial)
       dsimp only at hrt
       cases hrb : RightB o p (lf Lo) (lf Hi) ⟨4,at_,ct⟩
       ·rw [hrb] at hrt HCK
        have HRT:=Lib.hid hrt
        clear hrb hrt
        have HCL:=Lib.hid (vry_bad (n:=fuel) (L:=L) (HCK.out.trans (if_neg (by simp))) (by decide))
        clear HCK
        have HCK:=HCL
        go_wp2_with (first | (go_at_call 94; refine HRT.out.mono ?_; rintro e w3 ⟨rfl,hb3⟩) | fail)
        have BT:=BU.trans ((hE.trans (hb3.mono hE.size)).mono BU.size)
        refine bodyPost_ret (v:=.tuple #[.slice none 0 0,.int .i64 9]) (by simp [results,Try.results80,go_sem]) rfl ⟨⟨_,by rw [HCK.out],fun _ => rfl,fun h => by rw [HCK.out] at h; simp at h⟩,BT⟩
       ·rw [hrb] at hrt HCK
        have HRT:=Lib.hid hrt
        clear hrb hrt
        have HCL:=Lib.hid (vry_end (n:=fuel) (L:=L) (HCK.out.trans (if_pos rfl)) (by simp))
        clear HCK
        have HCK:=HCL
        go_wp2_with (first | (go_at_call 94; refine HRT.out.mono ?_; rintro e w3 ⟨rfl,hb3⟩) | fail)
        have BT:=BU.trans ((hE.trans (hb3.mono hE.size)).mono BU.size)
        refine bodyPost_ret (v:=.tuple #[.slice NA (n - 1) (pc - 1),.int .i64 0]) (by simp [results,Try.results80,go_sem]) rfl ⟨⟨_,by rw [HCK.out],fun h => by rw [HCK.out] at h; simp at h,fun _ => ⟨NA,pc - 1,by rw [HCK.out,HLN.out],by rw [HCK.out,HLN.out]; omega,by rw [HCK.out]; exact (hPU.call hE).call hb3⟩⟩,BT⟩
      ·have H2:=Lib.hid (decide_eq_false hat)
       have hck : ckBd o p (lf Lo) (lf Hi) ⟨4,at_,ct⟩ = 3:=by
        unfold ckBd
        dsimp only
        rw [if_neg (by omega),if_pos ⟨rfl,by rw [HL.out]; omega⟩]
       have HCK:=Lib.hid (vry_bad (n:=fuel) (L:=L) hck (by decide))
       clear hat h15 hck
       go_wp2_with (first | (go_at_call 65; refine (from65_same _ _ _ _).mono ?_; rintro e w2 ⟨rfl,rfl⟩; first | rw [H1.out] | rw [H2.out]) | fail)
       refine bodyPost_ret (v:=.tuple #[.slice none 0 0,.int .i64 3]) (by simp [results,Try.results80,go_sem]) rfl ⟨⟨_,by rw [HCK.out],fun _ => rfl,fun h => by rw [HCK.out] at h; simp at h⟩,BU⟩
     ·have d4 : (rs == 4) = false:=by simp; exact h4
      have hra : rs = 4 → 0 ≤ at_ ∧ at_ < ln:=fun h => absurd h h4
      have HRA:=Lib.hid hra
      have hck : ckBd o p (lf Lo) (lf Hi) ⟨rs,at_,ct⟩ = if RightB o p (lf Lo) (lf Hi) ⟨rs,at_,ct⟩ = true then 0 else 9:=by
       unfold ckBd
       dsimp only
       rw [if_neg h1,if_neg (fun h => h4 h.1),if_neg (by omega)]
      have HCK:=Lib.hid hck
      have H1N:=Lib.hid h1
      have h25 : 2 ≤ rs ∧ rs ≤ 5:=by omega
      clear h15 hck hra h1 h4
      go_upto_region 9 with (first | (go_at_call 65; refine (from65_same _ _ _ _).mono ?_; rintro e w2 ⟨rfl,rfl⟩; first | rw [H1.out]) | fail)
      clear q0 q1 q2 qf qz l0 l1 l2 l3 lf' lz x0 x1 xf xz
      go_wp2_with fail
      refine AnyG.startC (by kernel_rfl) ?_
      refine AnyG.takeP (i:=0) (v:=?_) rfl (by kernel_rfl) (fun _ _ _ h => h) rfl ?_ ?_
      rotate_left
      ·(intro w'; go_simp; try with_reducible rfl)
      try simp only [Act.put,Sp1,Sp2,Sp3,Sp4,Sp5,Sp6]
      refine AnyG.enter (fun w' : World => Below U.heap.size U w') (fun i => true) ?_
      have hS : (fun w' : World => Below U.heap.size U w') (World.drew _):=(Below.refl _ _).drew
      refine AnyG.takeC (i:=1) (v:=?_) rfl (by kernel_rfl) (fun _ _ _ h => h) rfl ?_ hS ?_
      rotate_left
      ·(intro w' hSw; (try dsimp only at hSw); obtain ⟨q0,q1,q2,qf,qz⟩:=(kb.call hSw).three; go_simp; try with_reducible rfl)
      try simp only [Act.put,Sp1,Sp2,Sp3,Sp4,Sp5,Sp6]
      refine AnyG.takeC (i:=2) (v:=?_) rfl (by kernel_rfl) (fun _ _ _ h => h) rfl ?_ hS ?_
      rotate_left
      ·(intro w' hSw; (try dsimp only at hSw); go_simp; try with_reducible rfl)
      try simp only [Act.put,Sp1,Sp2,Sp3,Sp4,Sp5,Sp6]
      refine AnyG.takeC (i:=3) (v:=?_) rfl (by kernel_rfl) (fun _ _ _ h => h) rfl ?_ hS ?_
      rotate_left
      ·(intro w' hSw; (try dsimp only at hSw); go_simp; try with_reducible rfl)
      try simp only [Act.put,Sp1,Sp2,Sp3,Sp4,Sp5,Sp6]
      refine AnyG.takeNC (i:=4) rfl (by kernel_rfl) (fun _ _ _ h => h) (by first | (simp [Region.wanted,yielded]; done) | simp [Region.wanted,yielded,undef]) hS ?_
      try simp only [Act.put,Sp1,Sp2,Sp3,Sp4,Sp5,Sp6]
      refine AnyG.takeNC (i:=5) rfl (by kernel_rfl) (fun _ _ _ h => h) (by first | (simp [Region.wanted,yielded]; done) | simp [Region.wanted,yielded,undef]) hS ?_
      try simp only [Act.put,Sp1,Sp2,Sp3,Sp4,Sp5,Sp6]
      refine AnyG.takeNC (i:=6) rfl (by kernel_rfl) (fun _ _ _ h => h) (by first | (simp [Region.wanted,yielded]; done) | simp [Region.wanted,yielded,undef]) hS ?_
      try simp only [Act.put,Sp1,Sp2,Sp3,Sp4,Sp5,Sp6]
      refine AnyG.takeNC (i:=7) rfl (by kernel_rfl) (fun _ _ _ h => h) (by first | (simp [Region.wanted,yielded]; done) | simp [Region.wanted,yielded,undef]) hS ?_
      try simp only [Act.put,Sp1,Sp2,Sp3,Sp4,Sp5,Sp6]
      refine AnyG.takeNC (i:=8) rfl (by kernel_rfl) (fun _ _ _ h => h) (by first | (simp [Region.wanted,yielded]; done) | simp [Region.wanted,yielded,undef]) hS ?_
      try simp only [Act.put,Sp1,Sp2,Sp3,Sp4,Sp5,Sp6]
      refine AnyG.takeNC (i:=9) rfl (by kernel_rfl) (fun _ _ _ h => h) (by first | (simp [Region.wanted,yielded]; done) | simp [Region.wanted,yielded,undef]) hS ?_
      try simp only [Act.put,Sp1,Sp2,Sp3,Sp4,Sp5,Sp6]
      refine AnyG.takeNC (i:=10) rfl (by kernel_rfl) (fun _ _ _ h => h) (by first | (simp [Region.wanted,yielded]; done) | simp [Region.wanted,yielded,undef]) hS ?_
      try simp only [Act.put,Sp1,Sp2,Sp3,Sp4,Sp5,Sp6]
      refine AnyG.takeNC (i:=11) rfl (by kernel_rfl) (fun _ _ _ h => h) (by first | (simp [Region.wanted,yielded]; done) | simp [Region.wanted,yielded,undef]) hS ?_
      try simp only [Act.put,Sp1,Sp2,Sp3,Sp4,Sp5,Sp6]
      refine AnyG.takeNC (i:=12) rfl (by kernel_rfl) (fun _ _ _ h => h) (by first | (simp [Region.wanted,yielded]; done) | simp [Region.wanted,yielded,undef]) hS ?_
      try simp only [Act.put,Sp1,Sp2,Sp3,Sp4,Sp5,Sp6]
      refine AnyG.takeNC (i:=13) rfl (by kernel_rfl) (fun _ _ _ h => h) (by first | (simp [Region.wanted,yielded]; done) | simp [Region.wanted,yielded,undef]) hS ?_
      try simp only [Act.put,Sp1,Sp2,Sp3,Sp4,Sp5,Sp6]
      refine AnyG.takeNC (i:=14) rfl (by kernel_rfl) (fun _ _ _ h => h) (by first | (simp [Region.wanted,yielded]; done) | simp [Region.wanted,yielded,undef]) hS ?_
      try simp only [Act.put,Sp1,Sp2,Sp3,Sp4,Sp5,Sp6]
      refine AnyG.takeNC (i:=15) rfl (by kernel_rfl) (fun _ _ _ h => h) (by first | (simp [Region.wanted,yielded]; done) | simp [Region.wanted,yielded,undef]) hS ?_
      try simp only [Act.put,Sp1,Sp2,Sp3,Sp4,Sp5,Sp6]
      refine AnyG.takeNC (i:=16) rfl (by kernel_rfl) (fun _ _ _ h => h) (by first | (simp [Region.wanted,yielded]; done) | simp [Region.wanted,yielded,undef]) hS ?_
      try simp only [Act.put,Sp1,Sp2,Sp3,Sp4,Sp5,Sp6]
      refine AnyG.takeNC (i:=17) rfl (by kernel_rfl) (fun _ _ _ h => h) (by first | (simp [Region.wanted,yielded]; done) | simp [Region.wanted,yielded,undef]) hS ?_
      try simp only [Act.put,Sp1,Sp2,Sp3,Sp4,Sp5,Sp6]
      refine AnyG.takeNC (i:=18) rfl (by kernel_rfl) (fun _ _ _ h => h) (by first | (simp [Region.wanted,yielded]; done) | simp [Region.wanted,yielded,undef]) hS ?_
      try simp only [Act.put,Sp1,Sp2,Sp3,Sp4,Sp5,Sp6]
      refine AnyG.takeNC (i:=19) rfl (by kernel_rfl) (fun _ _ _ h => h) (by first | (simp [Region.wanted,yielded]; done) | simp [Region.wanted,yielded,undef]) hS ?_
      try simp only [Act.put,Sp1,Sp2,Sp3,Sp4,Sp5,Sp6]
      refine AnyG.takeNC (i:=20) rfl (by kernel_rfl) (fun _ _ _ h => h) (by first | (simp [Region.wanted,yielded]; done) | simp [Region.wanted,yielded,undef]) hS ?_
      try simp only [Act.put,Sp1,Sp2,Sp3,Sp4,Sp5,Sp6]
      refine AnyG.takeC (i:=21) (v:=?_) rfl (by kernel_rfl) (fun _ _ _ h => h) rfl ?_ hS ?_
      rotate_left
      ·(intro w' hSw; (try dsimp only at hSw); go_simp; try with_reducible rfl)
      try simp only [Act.put,Sp1,Sp2,Sp3,Sp4,Sp5,Sp6]
      refine AnyG.takeC (i:=22) (v:=?_) rfl (by kernel_rfl) (fun _ _ _ h => h) rfl ?_ hS ?_
      rotate_left
      ·(intro w' hSw; (try dsimp only at hSw); go_simp; try with_reducible rfl)
      try simp only [Act.put,Sp1,Sp2,Sp3,Sp4,Sp5,Sp6]
      refine AnyG.done (by kernel_rfl) ?_ _
      have hE : Below U.heap.size U U.drew:=(Below.refl _ _).drew
      go_simp
      obtain ⟨q0,q1,q2,qf,qz⟩:=(kb.call hE).three
      obtain ⟨l0,l1,l2,l3,lf',lz⟩:=(k1U.call hE).four
      obtain ⟨x0,x1,xf,xz⟩:=(k2U.call hE).two
      have hrt:=right_any LA ln lc BA bn bc o SA TA sc tc Lo Hi p ⟨rs,at_,ct⟩ U.drew HL.out HB.out (hAU.call hE) HO.out HLO.out HHI.out (hSU.call hE) (hTU.call hE) HX.out (by dsimp only; omega) (by dsimp only; omega) HRA.out
      dsimp only at hrt
      cases hrb : RightB o p (lf Lo) (lf Hi) ⟨rs,at_,ct⟩
      ·rw [hrb] at hrt HCK
       have HRT:=Lib.hid hrt
       clear hrb hrt
       have HCL:=Lib.hid (vry_bad (n:=fuel) (L:=L) (HCK.out.trans (if_neg (by simp))) (by decide))
       clear HCK
       have HCK:=HCL
       go_wp2_with (first | (go_at_call 94; refine HRT.out.mono ?_; rintro e w3 ⟨rfl,hb3⟩) | fail)
       have BT:=BU.trans ((hE.trans (hb3.mono hE.size)).mono BU.size)
       refine bodyPost_ret (v:=.tuple #[.slice none 0 0,.int .i64 9]) (by simp [results,Try.results80,go_sem]) rfl ⟨⟨_,by rw [HCK.out],fun _ => rfl,fun h => by rw [HCK.out] at h; simp at h⟩,BT⟩
      ·rw [hrb] at hrt HCK
       have HRT:=Lib.hid hrt
       clear hrb hrt
       have HCL:=Lib.hid (vry_end (n:=fuel) (L:=L) (HCK.out.trans (if_pos rfl)) (H1N.out))
       clear HCK
       have HCK:=HCL
       go_wp2_with (first | (go_at_call 94; refine HRT.out.mono ?_; rintro e w3 ⟨rfl,hb3⟩) | fail)
       have BT:=BU.trans ((hE.trans (hb3.mono hE.size)).mono BU.size)
       refine bodyPost_ret (v:=.tuple #[.slice NA (n - 1) (pc - 1),.int .i64 0]) (by simp [results,Try.results80,go_sem]) rfl ⟨⟨_,by rw [HCK.out],fun h => by rw [HCK.out] at h; simp at h,fun _ => ⟨NA,pc - 1,by rw [HCK.out,HLN.out],by rw [HCK.out,HLN.out]; omega,by rw [HCK.out]; exact (hPU.call hE).call hb3⟩⟩,BT⟩
   ·have H1:=Lib.hid (decide_eq_false h15)
    have hck : ckBd o p (lf Lo) (lf Hi) ⟨rs,at_,ct⟩ = 8:=by
     unfold ckBd
     dsimp only
     rw [if_neg (by omega),if_neg (by omega),if_pos (by omega)]
    have HCK:=Lib.hid (vry_bad (n:=fuel) (L:=L) hck (by decide))
    clear h15 hck
    go_wp2_with (first | (go_at_call 65; refine (from65_same _ _ _ _).mono ?_; rintro e w2 ⟨rfl,rfl⟩; first | rw [H1.out]) | fail)
    refine bodyPost_ret (v:=.tuple #[.slice none 0 0,.int .i64 8]) (by simp [results,Try.results80,go_sem]) rfl ⟨⟨_,by rw [HCK.out],fun _ => rfl,fun h => by rw [HCK.out] at h; simp at h⟩,BU⟩
end Go.Proofs.Ytmemcopfeabcgaa
