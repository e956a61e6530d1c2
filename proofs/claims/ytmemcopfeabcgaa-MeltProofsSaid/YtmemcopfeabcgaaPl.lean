/- swarfref06.plain: plain proofs of the reference. -/
import Derived.Test.YtmemcopfeabcgaaRt
import Derived.Test.YtmemcopfeabcgaaWf
set_option linter.unusedSimpArgs false
set_option linter.unusedVariables false
namespace Go.Proofs.Ytmemcopfeabcgaa
open Go Go.RowKit
theorem addq (q n : Nat) : (⟨q,0,none⟩ : Addr).add n = ⟨q,n,none⟩:=by
 unfold Addr.add
 split
 ·rename_i h; rw [h]
 ·simp
/-- What plain gives. -/
def PlnP (o : Od) (p : Int) (n : Nat) (lo hi : Nat → Int) (w : World) (e : Ending) (w' : World) : Prop :=
 (∃ (A : Option Addr) (c : Nat),e = .returned (.tuple #[.slice A (pln o p n lo hi).1.length c,.bool (pln o p n lo hi).2]) ∧ Sl w' w'.heap.size 3 A ((pln o p n lo hi).1.map bdr) ∧ (pln o p n lo hi).1.length ≤ c) ∧ Below w.heap.size w w'
theorem own_le {w : World} {b : Nat} {e : TypeId} {s : Nat} {A : Option Addr} {n c : Nat} {xs : List Value} (h : w.ownsRow b e s (.slice A n c) n xs) : n ≤ c:=by
 obtain ⟨A',c',e1,e2⟩:=own_cap h
 simp at e1
 omega
/-- The first reasons of the reference. -/
def rsK (j : Nat) : List Bd:=[⟨2,0,0⟩,⟨3,0,0⟩] ++ (List.range j).map fun (j : Nat) => (⟨4,j,0⟩ : Bd)
theorem rsK_succ (j : Nat) : rsK (j + 1) = rsK j ++ [⟨4,j,0⟩]:=by simp [rsK,List.range_succ]
theorem rsK_all (ln : Nat) : rsL ln = rsK ln ++ [⟨5,0,0⟩]:=rfl
theorem bdrs_snoc (L : List Bd) (r : Bd) : bdrs (L ++ [r]) = bdrs L ++ bdr r:=by rw [bdrs_append,bdrs_one]
theorem bdr_len (L : List Bd) : ∀ r ∈ L.map bdr,r.length = 3:=by intro r hr; obtain ⟨x,_,rfl⟩:=List.mem_map.1 hr; rfl
theorem sl_one {w : World} {B : Nat} {ad : Addr} {L : List Bd} {j : Nat} {r : Bd} (h : Sl w B 3 (some ad) (L.map bdr)) (hj : L[j]? = some r) : Sl w B 3 (some (ad.add (j * 3))) ([r].map bdr):=fun k x hx => by
 obtain ⟨a',e1,e2,e3⟩:=h j (bdr r) (by rw [List.getElem?_map,hj]; rfl)
 obtain rfl:=Option.some.inj e1
 cases k with
 | zero =>
  obtain rfl : bdr r = x:=by simpa using hx
  exact ⟨_,rfl,by rw [add_block]; exact e2,by rw [Nat.zero_mul,add0]; exact e3⟩
 | succ k => simp at hx
theorem wpList_app3 {P : Program} {w : World} {ops : Array Oper} {rest : List Oper} {o : Oper} {a : Act} {Q : Exit → Act → World → Prop} (hgd : o.guard = none) (s x : Operand) (t : TypeId)
  (ho : o.op = .call { callee:=.builtin .append,args:=#[s,x],argTypes:=#[t,t] })
  (base : Nat) (e : TypeId) (i : TypeInfo) (z : Value) (size bytes : Nat) (ht : P.underlying t = some (.slice e)) (hi : P.info? e = some i) (hz : i.zero = some z)
  (hsize : i.size = size) (hby : i.bytes = bytes) (hzs : z.cells.size = size) (hsz : 0 < size)
  (v : Value) (n : Nat) (xs : List Value) (hs : a.eval s = v) (hown : w.ownsRow base e size v n xs)
  (A : Option Addr) (m c : Nat) (news : List Value) (hx : a.eval x = .slice A m c) (hl : news.length = m * size) (hnews : ∀ j u,news[j]? = some u → ∃ ad,A = some ad ∧ w.cell? (ad.add j) = some u) (h1 : ∀ u ∈ news,u.oneCell' = true)
  (h63 : n + m ≤ maxLen) (hbytes : (n + m) * bytes ≤ 140737488355328) (hbase : base ≤ w.heap.size)
  (h : ∀ v' w',w'.ownsRow base e size v' (n + m) (xs ++ news) → w.grownBy w' v.ownBlock → (v'.ownBlock = v.ownBlock ∨ ∀ k,v'.ownBlock = some k → w.heap.size ≤ k) → wpList P ops Q rest (a.put o.dst v') w') : wpList P ops Q (o :: rest) a w :=
 wpList_plain hgd fun _ hK => wp_app3 s x t ho base e i z size bytes ht hi hz hsize hby hzs hsz v n xs hs hown A m c news hx hl hnews h1 h63 hbytes hbase fun v' w' h2 h3 _ h5 => hK _ _ (h v' w' h2 h3 h5)
set_option maxRecDepth 100000 in
set_option maxHeartbeats 16000000 in
theorem refPlain_any (LA : Option Addr) (ln lc : Nat) (BA : Option Addr) (bn bc : Nat) (o : Od) (p : Int) (hl : o.lm.length = ln) (hb' : o.bs.length = bn) (ho : o.Ok) : ∀ (fuel : Nat) (Lo Hi : List Int) (SA TA : Option Addr) (sc tc : Nat) (w : World),wid (lf Lo) (lf Hi) < fuel → BoxOk (lf Lo) (lf Hi) → Lo.length = bn → Hi.length = bn → OrdAt w w.heap.size LA BA o → Sl w w.heap.size 1 SA (inr Lo) → Sl w w.heap.size 1 TA (inr Hi) →
  Calls Try.prog 78 #[.agg #[.slice LA ln lc,.int .i64 o.le,.int .i64 o.mo,.slice BA bn bc],.agg #[.slice SA bn sc,.slice TA bn tc],.int .i64 p] w (PlnP o p fuel (lf Lo) (lf Hi) w):=by
 have HB:=Lib.hid hb'
 have HL:=Lib.hid hl
 have HO:=Lib.hid ho
 have hbn4 : bn ≤ 4:=by rw [← hb']; exact ho.b2
 have hbn1 : 1 ≤ bn:=by rw [← hb']; exact ho.b1
 have hln3 : ln ≤ 3:=by rw [← hl]; exact ho.lm
 obtain ⟨i69,hi69,hz69,hs69,iy69⟩:=info_parts info69
 clear hb' hl ho
 intro fuel
 induction fuel with
 | zero => intro Lo Hi SA TA sc tc w hw; omega
 | succ fuel ih =>
  intro Lo Hi SA TA sc tc w hw hbx hlo hhi hA hS hT
  have IH:=Lib.hid ih
  have HX:=Lib.hid hbx
  have HLO:=Lib.hid hlo
  have HHI:=Lib.hid hhi
  clear ih hbx hlo hhi
  have k1:=(Bx.new w 27 #[.slice LA ln lc,.int .i64 o.le,.int .i64 o.mo,.slice BA bn bc]).alloc (.cells #[.slice SA bn sc,.slice TA bn tc] 119)
  have k2:=Bx.at (w.alloc (.cells #[.slice LA ln lc,.int .i64 o.le,.int .i64 o.mo,.slice BA bn bc] 27)) 119 #[.slice SA bn sc,.slice TA bn tc] (n:=w.heap.size + 1) (by simp)
  have B0:=((Below.refl w.heap.size w).alloc (Nat.le_refl _) (.cells #[.slice LA ln lc,.int .i64 o.le,.int .i64 o.mo,.slice BA bn bc] 27)).alloc (by simp) (.cells #[.slice SA bn sc,.slice TA bn tc] 119)
  have hA1:=hA.call B0
  have hS1:=hS.call B0
  have hT1:=hT.call B0
  obtain ⟨V,hV⟩ : ∃ V,(w.alloc (.cells #[.slice LA ln lc,.int .i64 o.le,.int .i64 o.mo,.slice BA bn bc] 27)).alloc (.cells #[.slice SA bn sc,.slice TA bn tc] 119) = V:=⟨_,rfl⟩
  rw [hV] at k1 k2 B0 hA1 hS1 hT1
  have HV:=Lib.hid hV
  clear hV hA hS hT
  obtain ⟨b0,hb0⟩ : ∃ b,w.heap.size = b:=⟨_,rfl⟩
  rw [hb0] at k1 k2
  have HB0:=Lib.hid hb0
  clear hb0
  go_enter Try.func78,Try.ntmps78
  go_upto_region 1 with fail
  rw [HV.out,HB0.out]
  go_upto_region 2 with fail
  have oR : (V.alloc (.cells #[.int .i64 2,.int .i64 0,.int .i64 0,.int .i64 3,.int .i64 0,.int .i64 0] 69)).ownsRow V.heap.size 69 3 (.slice (some ⟨V.heap.size,0,none⟩) 2 2) 2 (bdrs (rsK 0)) :=
   ⟨rfl,.inr ⟨V.heap.size,2,#[.int .i64 2,.int .i64 0,.int .i64 0,.int .i64 3,.int .i64 0,.int .i64 0],rfl,by omega,Bx.new _ _ _,by omega,by unfold maxLen; omega,rfl,rfl⟩⟩
  have B1:=(Below.refl V.heap.size V).alloc (Nat.le_refl _) (.cells #[.int .i64 2,.int .i64 0,.int .i64 0,.int .i64 3,.int .i64 0,.int .i64 0] 69)
  go_wp2_with fail
  go_loopw [8,9] (fun rv v wr => ∃ (j : Nat) (A : Option Addr) (c : Nat),v = .int .i64 j ∧ j ≤ ln ∧ rv = .slice A (j + 2) c ∧ wr.ownsRow V.heap.size 69 3 (.slice A (j + 2) c) (j + 2) (bdrs (rsK j)) ∧ Below V.heap.size V wr) (fun _ v _ => ln - (intOf v).toNat)
  case atStart => exact ⟨0,_,_,rfl,by omega,rfl,oR,B1⟩
  case round =>
   clear oR B1
   obtain ⟨j,A,c,rfl,hj,rfl,oR,hBr⟩:=hrel
   obtain ⟨l0,l1,l2,l3,lf',lz⟩:=(k1.call hBr).four
   by_cases hjn : j < ln
   ·have hjw : IntKind.i64.wrap ((j : Int) + 1) = (j : Int) + 1:=IntWalk.i64_in _ (by omega)
    have oR1:=oR.alloc (.cells #[.int .i64 4,.int .i64 (j : Int),.int .i64 0] 69)
    have hcs:=bd_cells wr ⟨4,(j : Int),0⟩
    have h1c:=bd_one ⟨4,(j : Int),0⟩
    go_wp2_with (first
     | (at_builtin; refine wpList_app2 rfl (.tmp 27) (.tmp 30) 51 rfl V.heap.size 69 i69 _ 3 24 Try.underlying51 hi69 hz69 hs69 iy69 rfl (by decide) (.slice A (j + 2) c) (j + 2) (bdrs (rsK j)) rfl oR1 ⟨wr.heap.size,0,none⟩ 1 1 (bdr ⟨4,(j : Int),0⟩) rfl rfl hcs h1c (by unfold maxLen; omega) (by omega) (by have:=hBr.size; simp; omega) ?_; intro v' w' o1 o2 o3; obtain ⟨NA,NC,rfl⟩:=own_shape o1)
     | fail)
    have B2:=(hBr.alloc hBr.size (.cells #[.int .i64 4,.int .i64 (j : Int),.int .i64 0] 69)).grown o2 (by have:=hBr.size; simp; omega) (fun q e => (oR1.lt q e).1)
    rw [← bdrs_snoc,← rsK_succ] at o1
    have e : j + 2 + 1 = j + 1 + 2:=by omega
    rw [e] at o1
    go_roundw
    case rel => exact ⟨j + 1,NA,NC,by go_num,by omega,by rw [← e],o1,B2⟩
    case measure => simp [intOf]; omega
   ·obtain rfl : j = ln:=by omega
    have oR1:=oR.alloc (.cells #[.int .i64 5,.int .i64 0,.int .i64 0] 69)
    have hcs:=bd_cells wr ⟨5,0,0⟩
    have h1c:=bd_one ⟨5,0,0⟩
    go_upto_region 7 with (first
     | (at_builtin; refine wpList_app2 rfl (.tmp 32) (.tmp 34) 51 rfl V.heap.size 69 i69 _ 3 24 Try.underlying51 hi69 hz69 hs69 iy69 rfl (by decide) (.slice A (j + 2) c) (j + 2) (bdrs (rsK j)) rfl oR1 ⟨wr.heap.size,0,none⟩ 1 1 (bdr ⟨5,0,0⟩) rfl rfl hcs h1c (by unfold maxLen; omega) (by omega) (by have:=hBr.size; simp; omega) ?_; intro v' w' o1 o2 o3; obtain ⟨RA,rc,rfl⟩:=own_shape o1)
     | fail)
    have B2:=(hBr.alloc hBr.size (.cells #[.int .i64 5,.int .i64 0,.int .i64 0] 69)).grown o2 (by have:=hBr.size; simp; omega) (fun q e => (oR1.lt q e).1)
    rw [← bdrs_snoc,← rsK_all] at o1
    have e : j + 2 + 1 = j + 3:=by omega
    rw [e] at o1 ⊢
    have hrc : j + 3 ≤ rc:=by obtain ⟨A',c',e1,e2⟩:=own_cap o1; simp at e1; omega
    obtain ⟨q,rfl⟩:=own_some o1 (by omega)
    have hR : Sl w' w'.heap.size 3 (some ⟨q,0,none⟩) ((rsL j).map bdr):=by
     obtain ⟨A',c',e1,e2⟩:=own_sl (rs:=(rsL j).map bdr) o1 (bdr_len _) (by rw [List.length_map,rsL_len])
     simp only [Value.slice.injEq,true_and] at e1
     obtain ⟨rfl,rfl⟩:=e1
     exact e2
    obtain ⟨U,hU⟩ : ∃ U,U = w':=⟨_,rfl⟩
    subst hU
    have hAU:=hA1.call B2
    have hSU:=hS1.call B2
    have hTU:=hT1.call B2
    have k1U:=k1.call B2
    have k2U:=k2.call B2
    have BU:=B0.trans (B2.mono B0.size)
    clear oR oR1 hcs h1c o1 o2 o3 e B2 hBr hA1 hS1 hT1 k1 k2 B0 l0 l1 l2 l3 lf' lz hj hjn
    go_wp2_with fail
    go_loopw [10] (fun v wr => ∃ (k : Nat),v = .int .i64 k ∧ k ≤ j + 3 ∧ Hid (∀ (m : Nat) (y : Bd),m < k → (rsL j)[m]? = some y → RightB o p (lf Lo) (lf Hi) y = false) ∧ Below U.heap.size U wr) (fun v _ => j + 3 - (intOf v).toNat)
    case atStart => exact ⟨0,rfl,by omega,Lib.hid (fun m y hm => by omega),Below.refl _ _⟩
    case round =>
     obtain ⟨k,rfl,hk,hno,hBr⟩:=hrel
     by_cases hkn : k < j + 3
     ·have hkl : k < (rsL j).length:=by rw [rsL_len]; exact hkn
      have hkw : IntKind.i64.wrap ((k : Int) + 1) = (k : Int) + 1:=IntWalk.i64_in _ (by omega)
      obtain ⟨r,hr⟩ : ∃ r,(rsL j)[k]? = some r:=⟨_,List.getElem?_eq_getElem hkl⟩
      obtain ⟨ad,e0,had,r0,r1,r2⟩:=bd_at hR hkl
      obtain rfl:=Option.some.inj e0
      have er : (rsL j)[k] = r:=by rw [List.getElem?_eq_getElem hkl] at hr; exact Option.some.inj hr
      rw [er] at r0 r1 r2
      rw [addq] at r0 r1 r2
      dsimp only at r1 r2
      obtain ⟨m2,m5,m4⟩:=rsL_mem (List.mem_of_getElem? hr)
      have HR:=Lib.hid hr
      have M4:=Lib.hid m4
      have HKJ:=Lib.hid (And.intro hk hkn)
      clear er hkl m4 hr
      go_wp2_with fail
      refine AnyG.startC (by kernel_rfl) ?_
      refine AnyG.takeP (i:=2) (v:=?_) rfl (by kernel_rfl) (fun _ _ _ h => h) rfl ?_ ?_
      rotate_left
      ·(intro w'; go_simp; try with_reducible rfl)
      try simp only [Act.put,Sp1,Sp2,Sp3,Sp4,Sp5,Sp6]
      refine AnyG.takeP (i:=3) (v:=?_) rfl (by kernel_rfl) (fun _ _ _ h => h) rfl ?_ ?_
      rotate_left
      ·(intro w'; go_simp; try with_reducible rfl)
      try simp only [Act.put,Sp1,Sp2,Sp3,Sp4,Sp5,Sp6]
      refine AnyG.takeP (i:=4) (v:=?_) rfl (by kernel_rfl) (fun _ _ _ h => h) rfl ?_ ?_
      rotate_left
      ·(intro w'; go_simp; try with_reducible rfl)
      try simp only [Act.put,Sp1,Sp2,Sp3,Sp4,Sp5,Sp6]
      refine AnyG.takeP (i:=5) (v:=?_) rfl (by kernel_rfl) (fun _ _ _ h => h) rfl ?_ ?_
      rotate_left
      ·(intro w'; go_simp; try with_reducible rfl)
      try simp only [Act.put,Sp1,Sp2,Sp3,Sp4,Sp5,Sp6]
      refine AnyG.enter (fun w' : World => Below U.heap.size U w') (fun i => true) ?_
      have hS : (fun w' : World => Below U.heap.size U w') (World.drew _):=hBr.drew
      refine AnyG.takeC (i:=0) (v:=?_) rfl (by kernel_rfl) (fun _ _ _ h => h) rfl ?_ hS ?_
      rotate_left
      ·(intro w' hSw; (try dsimp only at hSw); obtain ⟨l0,l1,l2,l3,lf2,lz⟩:=(k1U.call hSw).four; go_simp; try with_reducible rfl)
      try simp only [Act.put,Sp1,Sp2,Sp3,Sp4,Sp5,Sp6]
      refine AnyG.takeC (i:=1) (v:=?_) rfl (by kernel_rfl) (fun _ _ _ h => h) rfl ?_ hS ?_
      rotate_left
      ·(intro w' hSw; (try dsimp only at hSw); obtain ⟨x0,x1,xf,xz⟩:=(k2U.call hSw).two; go_simp; try with_reducible rfl)
      try simp only [Act.put,Sp1,Sp2,Sp3,Sp4,Sp5,Sp6]
      refine AnyG.takeC (i:=6) (v:=?_) rfl (by kernel_rfl) (fun _ _ _ h => h) rfl ?_ hS ?_
      rotate_left
      ·(intro w' hSw; (try dsimp only at hSw); have q0:=cellC hSw r0; have q1:=cellC hSw r1; have q2:=cellC hSw r2; go_simp; try with_reducible rfl)
      try simp only [Act.put,Sp1,Sp2,Sp3,Sp4,Sp5,Sp6]
      refine AnyG.one (i:=7) (by kernel_rfl) rfl rfl ?_
      go_simp
      refine (right_any LA j lc BA bn bc o SA TA sc tc Lo Hi p r _ HL.out HB.out (hAU.call hS) HO.out HLO.out HHI.out (hSU.call hS) (hTU.call hS) HX.out m2 m5 M4.out).mono ?_
      rintro e7 y7 ⟨rfl,hb7⟩
      refine Onward.on (hS.trans (hb7.mono hS.size)) (fun hS2 => ?_)
      clear hS
      have hS:=hS2
      clear hS2
      try simp only [Act.put,Sp1,Sp2,Sp3,Sp4,Sp5,Sp6]
      refine AnyG.done (by kernel_rfl) ?_ _
      have hE : Below U.heap.size U _:=hS
      clear hS
      go_simp
      cases hrb : RightB o p (lf Lo) (lf Hi) r with
      | true =>
       have HRB:=Lib.hid hrb
       clear hrb
       go_wp2_with fail
       have er : reason o p (lf Lo) (lf Hi) = some r:=by rw [reason_find,HL.out]; exact find_first HR.out HRB.out hno.out
       have epl : pln o p (fuel + 1) (lf Lo) (lf Hi) = ([r],true):=by unfold pln; rw [er]
       have hOne:=sl_one hR HR.out
       rw [addq] at hOne
       refine bodyPost_ret (v:=.tuple #[.slice (some ⟨q,k * 3,none⟩) 1 (rc - k),.bool true]) (by simp [results,Try.results78,go_sem]) rfl ⟨⟨_,_,by rw [epl]; rfl,by rw [epl]; exact hOne.call hE,by rw [epl]; show 1 ≤ rc - k; omega⟩,BU.trans (hE.mono BU.size)⟩
      | false =>
       have HRB:=Lib.hid hrb
       clear hrb
       go_wp2_with fail
       go_roundw
       case rel =>
        refine ⟨k + 1,by go_num,by omega,Lib.hid (fun m y hm hy => ?_),hE⟩
        by_cases em : m < k
        ·exact hno.out m y em hy
        ·obtain rfl : m = k:=by omega
         rw [HR.out] at hy
         obtain rfl:=Option.some.inj hy
         exact HRB.out
       case measure => simp [intOf]; omega
     ·obtain rfl : k = j + 3:=by omega
      have hrn : reason o p (lf Lo) (lf Hi) = none:=by
       rw [reason_find,HL.out]
       exact find_none' fun m y hm => hno.out m y (by have:=(List.getElem?_eq_some_iff.1 hm).1; rw [rsL_len] at this; exact this) hm
      have HRN:=Lib.hid hrn
      clear hrn hno hk hkn
      obtain ⟨W0,hW0⟩ : ∃ W,W = wr:=⟨_,rfl⟩
      subst hW0
      go_wp2_with fail
      go_loopw [6,7,11,12,13,14,15,16] (fun _ _ v _ _ _ _ _ wr => ∃ (a : Nat),v = .int .i64 a ∧ a ≤ bn ∧ Hid (∀ i,i < a → lf Lo i = lf Hi i) ∧ Below U.heap.size U wr) (fun _ _ v _ _ _ _ _ _ => bn - (intOf v).toNat)
      case atStart => exact ⟨0,rfl,by omega,Lib.hid (fun i hi => by omega),hBr⟩
      case round =>
       clear hBr
       obtain ⟨a,rfl,ha,hsm,hBr⟩:=hrel
       obtain ⟨l0,l1,l2,l3,lf',lz⟩:=(k1U.call hBr).four
       by_cases han : a < bn
       ·have hal : a < Lo.length:=by rw [HLO.out]; exact han
        have hah : a < Hi.length:=by rw [HHI.out]; exact han
        obtain ⟨sa,rfl,hsa,hx⟩:=inr_at hSU hal
        obtain ⟨ta,rfl,hta,hy⟩:=inr_at hTU hah
        rw [lf_at hal] at hx
        rw [lf_at hah] at hy
        have x6:=HX.out.six a
        have y6:=HX.out.six2 a
        have xy:=HX.out.le a (by omega)
        have haw : IntKind.i64.wrap ((a : Int) + 1) = (a : Int) + 1:=IntWalk.i64_in _ (by omega)
        obtain ⟨x,hxe⟩ : ∃ x,lf Lo a = x:=⟨_,rfl⟩
        obtain ⟨y,hye⟩ : ∃ y,lf Hi a = y:=⟨_,rfl⟩
        rw [hxe] at hx x6 xy
        rw [hye] at hy y6 xy
        have HXY:=Lib.hid (And.intro hxe hye)
        clear hxe hye
        go_wp2_with fail
        clear l0 l1 l2 l3 lf' lz
        by_cases hxy : x = y
        ·subst hxy
         refine AnyG.startC (by kernel_rfl) ?_
         refine AnyG.takeP (i:=0) (v:=?_) rfl (by kernel_rfl) (fun _ _ _ h => h) rfl ?_ ?_
         rotate_left
         ·(intro w'; go_simp; try with_reducible rfl)
         try simp only [Act.put,Sp1,Sp2,Sp3,Sp4,Sp5,Sp6]
         refine AnyG.takeP (i:=2) (v:=?_) rfl (by kernel_rfl) (fun _ _ _ h => h) rfl ?_ ?_
         rotate_left
         ·(intro w'; go_simp; try with_reducible rfl)
         try simp only [Act.put,Sp1,Sp2,Sp3,Sp4,Sp5,Sp6]
         refine AnyG.takeP (i:=5) (v:=?_) rfl (by kernel_rfl) (fun _ _ _ h => h) rfl ?_ ?_
         rotate_left
         ·(intro w'; go_simp; try with_reducible rfl)
         try simp only [Act.put,Sp1,Sp2,Sp3,Sp4,Sp5,Sp6]
         refine AnyG.takeP (i:=7) (v:=?_) rfl (by kernel_rfl) (fun _ _ _ h => h) rfl ?_ ?_
         rotate_left
         ·(intro w'; go_simp; try with_reducible rfl)
         try simp only [Act.put,Sp1,Sp2,Sp3,Sp4,Sp5,Sp6]
         refine AnyG.enter (fun w' : World => Below U.heap.size U w') (fun i => true) ?_
         have hS : (fun w' : World => Below U.heap.size U w') (World.drew _):=hBr.drew
         refine AnyG.takeC (i:=1) (v:=?_) rfl (by kernel_rfl) (fun _ _ _ h => h) rfl ?_ hS ?_
         rotate_left
         ·(intro w' hSw; (try dsimp only at hSw); obtain ⟨x0,x1,xf,xz⟩:=(k2U.call hSw).two; go_simp; try with_reducible rfl)
         try simp only [Act.put,Sp1,Sp2,Sp3,Sp4,Sp5,Sp6]
         refine AnyG.takeC (i:=3) (v:=?_) rfl (by kernel_rfl) (fun _ _ _ h => h) rfl ?_ hS ?_
         rotate_left
         ·(intro w' hSw; (try dsimp only at hSw); go_simp; try with_reducible rfl)
         try simp only [Act.put,Sp1,Sp2,Sp3,Sp4,Sp5,Sp6]
         refine AnyG.takeC (i:=4) (v:=?_) rfl (by kernel_rfl) (fun _ _ _ h => h) rfl ?_ hS ?_
         rotate_left
         ·(intro w' hSw; (try dsimp only at hSw); have qx:=cellC hSw hx; go_simp; try with_reducible rfl)
         try simp only [Act.put,Sp1,Sp2,Sp3,Sp4,Sp5,Sp6]
         refine AnyG.takeC (i:=6) (v:=?_) rfl (by kernel_rfl) (fun _ _ _ h => h) rfl ?_ hS ?_
         rotate_left
         ·(intro w' hSw; (try dsimp only at hSw); obtain ⟨x0,x1,xf,xz⟩:=(k2U.call hSw).two; go_simp; try with_reducible rfl)
         try simp only [Act.put,Sp1,Sp2,Sp3,Sp4,Sp5,Sp6]
         refine AnyG.takeC (i:=8) (v:=?_) rfl (by kernel_rfl) (fun _ _ _ h => h) rfl ?_ hS ?_
         rotate_left
         ·(intro w' hSw; (try dsimp only at hSw); go_simp; try with_reducible rfl)
         try simp only [Act.put,Sp1,Sp2,Sp3,Sp4,Sp5,Sp6]
         refine AnyG.takeC (i:=9) (v:=?_) rfl (by kernel_rfl) (fun _ _ _ h => h) rfl ?_ hS ?_
         rotate_left
         ·(intro w' hSw; (try dsimp only at hSw); have qy:=cellC hSw hy; go_simp; try with_reducible rfl)
         try simp only [Act.put,Sp1,Sp2,Sp3,Sp4,Sp5,Sp6]
         refine AnyG.takeC (i:=10) (v:=?_) rfl (by kernel_rfl) (fun _ _ _ h => h) rfl ?_ hS ?_
         rotate_left
         ·(intro w' hSw; (try dsimp only at hSw); go_simp; try with_reducible rfl)
         try simp only [Act.put,Sp1,Sp2,Sp3,Sp4,Sp5,Sp6]
         refine AnyG.done (by kernel_rfl) ?_ _
         go_simp
         go_wp2_with fail
         go_roundw
         case rel =>
          refine ⟨_,_,.int .i64 ((a : Int) + 1),⟨a + 1,by go_num,by omega,Lib.hid (fun i hi => ?_)⟩,rfl,rfl,rfl⟩
          by_cases e : i < a
          ·exact hsm.out i e
          ·obtain rfl : i = a:=by omega
           rw [HXY.out.1,HXY.out.2]
         case measure => simp [intOf]; omega
        ·have dxy : (x == y) = false:=by simp; exact hxy
         have hlt : x < y:=by omega
         have hm4 : a < 4:=by omega
         have hne : lf Lo a ≠ lf Hi a:=by rw [HXY.out.1,HXY.out.2]; exact hxy
         have hone:=one4_no hm4 hne
         have hmid:=mid_eq hm4 hsm.out hne
         have hcut : cutAt (lf Lo) (lf Hi) = (x + y) / 2:=by
          unfold cutAt
          rw [hmid,HXY.out.1,HXY.out.2,Int.tdiv_eq_ediv_of_nonneg (by omega)]
         obtain ⟨c,hc⟩ : ∃ c,(x + y) / 2 = c:=⟨_,rfl⟩
         have hc1 : x ≤ c:=by omega
         have hc2 : c < y:=by omega
         rw [hc] at hcut
         have HC:=Lib.hid (show IntKind.i64.wrap ((x + y).tdiv 2) = c by rw [Int.tdiv_eq_ediv_of_nonneg (by omega),hc]; exact IntWalk.i64_in _ (by omega))
         have HMATH:=Lib.hid (And.intro hone (And.intro hmid hcut))
         have hsw : IntKind.i64.wrap (x + y) = x + y:=IntWalk.i64_in _ (by omega)
         have hcw : IntKind.i64.wrap (c + 1) = c + 1:=IntWalk.i64_in _ (by omega)
         have q1 : lf Lo a ≤ c:=by rw [HXY.out.1]; exact hc1
         have q2 : c < lf Hi a:=by rw [HXY.out.2]; exact hc2
         have elo:=lf_set (L:=Hi) (m:=a) hah c
         have ehi:=lf_set (L:=Lo) (m:=a) hal (c + 1)
         have wl:=wid_lower hm4 q1 q2
         have wu:=wid_upper hm4 q1 q2
         have XL:=HX.out.lower hm4 q1 q2
         have XU:=HX.out.upper hm4 q1 q2
         rw [← elo] at wl XL
         rw [← ehi] at wu XU
         have HXL:=Lib.hid XL
         have HXU:=Lib.hid XU
         have HE:=Lib.hid (And.intro elo ehi)
         have HL1:=Lib.hid (show (Hi.set a c).length = bn by rw [List.length_set]; exact HHI.out)
         have HL2:=Lib.hid (show (Lo.set a (c + 1)).length = bn by rw [List.length_set]; exact HLO.out)
         replace wl : wid (lf Lo) (lf (Hi.set a c)) < fuel:=by omega
         replace wu : wid (lf (Lo.set a (c + 1))) (lf Hi) < fuel:=by omega
         have plX:=pln_len (o:=o) (p:=p) fuel _ _ HXL.out
         have plY:=pln_len (o:=o) (p:=p) fuel _ _ HXU.out
         have tX:=tot_bd HXL.out
         have tY:=tot_bd HXU.out
         replace plX : (pln o p fuel (lf Lo) (lf (Hi.set a c))).1.length ≤ 5000:=by omega
         replace plY : (pln o p fuel (lf (Lo.set a (c + 1))) (lf Hi)).1.length ≤ 5000:=by omega
         have HPL:=Lib.hid (And.intro plX plY)
         clear hc hone hmid hcut q1 q2 elo ehi XL XU hne plX plY tX tY
         refine AnyG.startC (by kernel_rfl) ?_
         refine AnyG.takeP (i:=0) (v:=?_) rfl (by kernel_rfl) (fun _ _ _ h => h) rfl ?_ ?_
         rotate_left
         ·(intro w'; go_simp; try with_reducible rfl)
         try simp only [Act.put,Sp1,Sp2,Sp3,Sp4,Sp5,Sp6]
         refine AnyG.takeP (i:=2) (v:=?_) rfl (by kernel_rfl) (fun _ _ _ h => h) rfl ?_ ?_
         rotate_left
         ·(intro w'; go_simp; try with_reducible rfl)
         try simp only [Act.put,Sp1,Sp2,Sp3,Sp4,Sp5,Sp6]
         refine AnyG.takeP (i:=5) (v:=?_) rfl (by kernel_rfl) (fun _ _ _ h => h) rfl ?_ ?_
         rotate_left
         ·(intro w'; go_simp; try with_reducible rfl)
         try simp only [Act.put,Sp1,Sp2,Sp3,Sp4,Sp5,Sp6]
         refine AnyG.takeP (i:=7) (v:=?_) rfl (by kernel_rfl) (fun _ _ _ h => h) rfl ?_ ?_
         rotate_left
         ·(intro w'; go_simp; try with_reducible rfl)
         try simp only [Act.put,Sp1,Sp2,Sp3,Sp4,Sp5,Sp6]
         refine AnyG.enter (fun w' : World => Below U.heap.size U w') (fun i => true) ?_
         have hS : (fun w' : World => Below U.heap.size U w') (World.drew _):=hBr.drew
         refine AnyG.takeC (i:=1) (v:=?_) rfl (by kernel_rfl) (fun _ _ _ h => h) rfl ?_ hS ?_
         rotate_left
         ·(intro w' hSw; (try dsimp only at hSw); obtain ⟨x0,x1,xf,xz⟩:=(k2U.call hSw).two; go_simp; try with_reducible rfl)
         try simp only [Act.put,Sp1,Sp2,Sp3,Sp4,Sp5,Sp6]
         refine AnyG.takeC (i:=3) (v:=?_) rfl (by kernel_rfl) (fun _ _ _ h => h) rfl ?_ hS ?_
         rotate_left
         ·(intro w' hSw; (try dsimp only at hSw); go_simp; try with_reducible rfl)
         try simp only [Act.put,Sp1,Sp2,Sp3,Sp4,Sp5,Sp6]
         refine AnyG.takeC (i:=4) (v:=?_) rfl (by kernel_rfl) (fun _ _ _ h => h) rfl ?_ hS ?_
         rotate_left
         ·(intro w' hSw; (try dsimp only at hSw); have qx:=cellC hSw hx; go_simp; try with_reducible rfl)
         try simp only [Act.put,Sp1,Sp2,Sp3,Sp4,Sp5,Sp6]
         refine AnyG.takeC (i:=6) (v:=?_) rfl (by kernel_rfl) (fun _ _ _ h => h) rfl ?_ hS ?_
         rotate_left
         ·(intro w' hSw; (try dsimp only at hSw); obtain ⟨x0,x1,xf,xz⟩:=(k2U.call hSw).two; go_simp; try with_reducible rfl)
         try simp only [Act.put,Sp1,Sp2,Sp3,Sp4,Sp5,Sp6]
         refine AnyG.takeC (i:=8) (v:=?_) rfl (by kernel_rfl) (fun _ _ _ h => h) rfl ?_ hS ?_
         rotate_left
         ·(intro w' hSw; (try dsimp only at hSw); go_simp; try with_reducible rfl)
         try simp only [Act.put,Sp1,Sp2,Sp3,Sp4,Sp5,Sp6]
         refine AnyG.takeC (i:=9) (v:=?_) rfl (by kernel_rfl) (fun _ _ _ h => h) rfl ?_ hS ?_
         rotate_left
         ·(intro w' hSw; (try dsimp only at hSw); have qy:=cellC hSw hy; go_simp; try with_reducible rfl)
         try simp only [Act.put,Sp1,Sp2,Sp3,Sp4,Sp5,Sp6]
         refine AnyG.takeC (i:=10) (v:=?_) rfl (by kernel_rfl) (fun _ _ _ h => h) rfl ?_ hS ?_
         rotate_left
         ·(intro w' hSw; (try dsimp only at hSw); go_simp; try with_reducible rfl)
         try simp only [Act.put,Sp1,Sp2,Sp3,Sp4,Sp5,Sp6]
         refine AnyG.done (by kernel_rfl) ?_ _
         go_simp
         go_wp2_with fail
         refine AnyG.startC (by kernel_rfl) ?_
         refine AnyG.takeP (i:=0) (v:=?_) rfl (by kernel_rfl) (fun _ _ _ h => h) rfl ?_ ?_
         rotate_left
         ·(intro w'; go_simp; try with_reducible rfl)
         try simp only [Act.put,Sp1,Sp2,Sp3,Sp4,Sp5,Sp6]
         refine AnyG.takeP (i:=2) (v:=?_) rfl (by kernel_rfl) (fun _ _ _ h => h) rfl ?_ ?_
         rotate_left
         ·(intro w'; go_simp; try with_reducible rfl)
         try simp only [Act.put,Sp1,Sp2,Sp3,Sp4,Sp5,Sp6]
         refine AnyG.takeP (i:=5) (v:=?_) rfl (by kernel_rfl) (fun _ _ _ h => h) rfl ?_ ?_
         rotate_left
         ·(intro w'; go_simp; try with_reducible rfl)
         try simp only [Act.put,Sp1,Sp2,Sp3,Sp4,Sp5,Sp6]
         refine AnyG.takeP (i:=7) (v:=?_) rfl (by kernel_rfl) (fun _ _ _ h => h) rfl ?_ ?_
         rotate_left
         ·(intro w'; go_simp; try with_reducible rfl)
         try simp only [Act.put,Sp1,Sp2,Sp3,Sp4,Sp5,Sp6]
         refine AnyG.enter (fun w' : World => Below U.heap.size U w') (fun i => true) ?_
         have hS : (fun w' : World => Below U.heap.size U w') (World.drew _):=hBr.drew.drew
         refine AnyG.takeC (i:=1) (v:=?_) rfl (by kernel_rfl) (fun _ _ _ h => h) rfl ?_ hS ?_
         rotate_left
         ·(intro w' hSw; (try dsimp only at hSw); obtain ⟨x0,x1,xf,xz⟩:=(k2U.call hSw).two; go_simp; try with_reducible rfl)
         try simp only [Act.put,Sp1,Sp2,Sp3,Sp4,Sp5,Sp6]
         refine AnyG.takeC (i:=3) (v:=?_) rfl (by kernel_rfl) (fun _ _ _ h => h) rfl ?_ hS ?_
         rotate_left
         ·(intro w' hSw; (try dsimp only at hSw); go_simp; try with_reducible rfl)
         try simp only [Act.put,Sp1,Sp2,Sp3,Sp4,Sp5,Sp6]
         refine AnyG.takeC (i:=4) (v:=?_) rfl (by kernel_rfl) (fun _ _ _ h => h) rfl ?_ hS ?_
         rotate_left
         ·(intro w' hSw; (try dsimp only at hSw); have qx:=cellC hSw hx; go_simp; try with_reducible rfl)
         try simp only [Act.put,Sp1,Sp2,Sp3,Sp4,Sp5,Sp6]
         refine AnyG.takeC (i:=6) (v:=?_) rfl (by kernel_rfl) (fun _ _ _ h => h) rfl ?_ hS ?_
         rotate_left
         ·(intro w' hSw; (try dsimp only at hSw); obtain ⟨x0,x1,xf,xz⟩:=(k2U.call hSw).two; go_simp; try with_reducible rfl)
         try simp only [Act.put,Sp1,Sp2,Sp3,Sp4,Sp5,Sp6]
         refine AnyG.takeC (i:=8) (v:=?_) rfl (by kernel_rfl) (fun _ _ _ h => h) rfl ?_ hS ?_
         rotate_left
         ·(intro w' hSw; (try dsimp only at hSw); go_simp; try with_reducible rfl)
         try simp only [Act.put,Sp1,Sp2,Sp3,Sp4,Sp5,Sp6]
         refine AnyG.takeC (i:=9) (v:=?_) rfl (by kernel_rfl) (fun _ _ _ h => h) rfl ?_ hS ?_
         rotate_left
         ·(intro w' hSw; (try dsimp only at hSw); have qy:=cellC hSw hy; go_simp; try with_reducible rfl)
         try simp only [Act.put,Sp1,Sp2,Sp3,Sp4,Sp5,Sp6]
         refine AnyG.takeC (i:=10) (v:=?_) rfl (by kernel_rfl) (fun _ _ _ h => h) rfl ?_ hS ?_
         rotate_left
         ·(intro w' hSw; (try dsimp only at hSw); go_simp; try with_reducible rfl)
         try simp only [Act.put,Sp1,Sp2,Sp3,Sp4,Sp5,Sp6]
         refine AnyG.takeC (i:=11) (v:=?_) rfl (by kernel_rfl) (fun _ _ _ h => h) rfl ?_ hS ?_
         rotate_left
         ·(intro w' hSw; (try dsimp only at hSw); go_simp; try with_reducible rfl)
         try simp only [Act.put,Sp1,Sp2,Sp3,Sp4,Sp5,Sp6]
         refine AnyG.takeC (i:=12) (v:=?_) rfl (by kernel_rfl) (fun _ _ _ h => h) rfl ?_ hS ?_
         rotate_left
         ·(intro w' hSw; (try dsimp only at hSw); go_simp; try with_reducible rfl)
         try simp only [Act.put,Sp1,Sp2,Sp3,Sp4,Sp5,Sp6]
         refine AnyG.done (by kernel_rfl) ?_ _
         go_simp
         rw [HC.out]
         go_wp2_with fail
         refine AnyG.startC (by kernel_rfl) ?_
         refine AnyG.takeP (i:=2) (v:=?_) rfl (by kernel_rfl) (fun _ _ _ h => h) rfl ?_ ?_
         rotate_left
         ·(intro w'; go_simp; try with_reducible rfl)
         try simp only [Act.put,Sp1,Sp2,Sp3,Sp4,Sp5,Sp6]
         refine AnyG.takeP (i:=3) (v:=?_) rfl (by kernel_rfl) (fun _ _ _ h => h) rfl ?_ ?_
         rotate_left
         ·(intro w'; go_simp; try with_reducible rfl)
         try simp only [Act.put,Sp1,Sp2,Sp3,Sp4,Sp5,Sp6]
         refine AnyG.takeP (i:=5) (v:=?_) rfl (by kernel_rfl) (fun _ _ _ h => h) rfl ?_ ?_
         rotate_left
         ·(intro w'; go_simp; try with_reducible rfl)
         try simp only [Act.put,Sp1,Sp2,Sp3,Sp4,Sp5,Sp6]
         refine AnyG.enter (fun w' : World => Below U.heap.size U w') (fun i => true) ?_
         have hS : (fun w' : World => Below U.heap.size U w') (World.drew _):=hBr.drew.drew.drew
         refine AnyG.takeC (i:=0) (v:=?_) rfl (by kernel_rfl) (fun _ _ _ h => h) rfl ?_ hS ?_
         rotate_left
         ·(intro w' hSw; (try dsimp only at hSw); obtain ⟨l0,l1,l2,l3,lf2,lz⟩:=(k1U.call hSw).four; go_simp; try with_reducible rfl)
         try simp only [Act.put,Sp1,Sp2,Sp3,Sp4,Sp5,Sp6]
         refine AnyG.takeC (i:=1) (v:=?_) rfl (by kernel_rfl) (fun _ _ _ h => h) rfl ?_ hS ?_
         rotate_left
         ·(intro w' hSw; (try dsimp only at hSw); obtain ⟨x0,x1,xf,xz⟩:=(k2U.call hSw).two; go_simp; try with_reducible rfl)
         try simp only [Act.put,Sp1,Sp2,Sp3,Sp4,Sp5,Sp6]
         refine AnyG.one (i:=4) (by kernel_rfl) rfl rfl ?_
         go_simp
         refine (refFirst_any (some sa) (some ta) bn sc tc Lo Hi a c _ hbn4 HLO.out HHI.out (hSU.call hS) (hTU.call hS) han (by omega) (by omega)).mono ?_
         rintro e4 y4 ⟨⟨A4,c4,rfl,hN4⟩,hb4⟩
         refine Onward.on (hS.trans (hb4.mono hS.size)) (fun hS2 => ?_)
         clear hS
         have hS:=hS2
         clear hS2
         try simp only [Act.put,Sp1,Sp2,Sp3,Sp4,Sp5,Sp6]
         refine AnyG.one (i:=6) (by kernel_rfl) rfl rfl ?_
         go_simp
         refine (IH.out Lo (Hi.set a c) (some sa) A4 sc c4 _ wl HXL.out HLO.out HL1.out (hAU.call hS) (hSU.call hS) hN4).mono ?_
         rintro e6 Y6 ⟨⟨A6,c6,rfl,hX6,-⟩,hb6⟩
         refine Onward.on (hS.trans (hb6.mono hS.size)) (fun hS2 => ?_)
         clear hS
         have hS:=hS2
         clear hS2
         try simp only [Act.put,Sp1,Sp2,Sp3,Sp4,Sp5,Sp6]
         refine AnyG.takeC (i:=7) (v:=?_) rfl (by kernel_rfl) (fun _ _ _ h => h) rfl ?_ hS ?_
         rotate_left
         ·(intro w' hSw; (try dsimp only at hSw); go_simp; try with_reducible rfl)
         try simp only [Act.put,Sp1,Sp2,Sp3,Sp4,Sp5,Sp6]
         refine AnyG.takeC (i:=8) (v:=?_) rfl (by kernel_rfl) (fun _ _ _ h => h) rfl ?_ hS ?_
         rotate_left
         ·(intro w' hSw; (try dsimp only at hSw); go_simp; try with_reducible rfl)
         try simp only [Act.put,Sp1,Sp2,Sp3,Sp4,Sp5,Sp6]
         refine AnyG.takeC (i:=9) (v:=?_) rfl (by kernel_rfl) (fun _ _ _ h => h) rfl ?_ hS ?_
         rotate_left
         ·(intro w' hSw; (try dsimp only at hSw); go_simp; try with_reducible rfl)
         try simp only [Act.put,Sp1,Sp2,Sp3,Sp4,Sp5,Sp6]
         refine AnyG.takeC (i:=10) (v:=?_) rfl (by kernel_rfl) (fun _ _ _ h => h) rfl ?_ hS ?_
         rotate_left
         ·(intro w' hSw; (try dsimp only at hSw); go_simp; try with_reducible rfl)
         try simp only [Act.put,Sp1,Sp2,Sp3,Sp4,Sp5,Sp6]
         refine AnyG.takeC (i:=11) (v:=?_) rfl (by kernel_rfl) (fun _ _ _ h => h) rfl ?_ hS ?_
         rotate_left
         ·(intro w' hSw; (try dsimp only at hSw); go_simp; try with_reducible rfl)
         try simp only [Act.put,Sp1,Sp2,Sp3,Sp4,Sp5,Sp6]
         refine AnyG.done (by kernel_rfl) ?_ _
         have hW : Below U.heap.size U Y6:=hS
         clear hS
         go_simp
         obtain ⟨X,hXd⟩ : ∃ x,pln o p fuel (lf Lo) (lf (Hi.set a c)) = x:=⟨_,rfl⟩
         rw [hXd] at hX6 HPL ⊢
         have HXD:=Lib.hid hXd
         clear hXd
         obtain ⟨X,bX⟩:=X
         dsimp only at hX6 HPL ⊢
         go_wp2_with fail
         refine AnyG.startC (by kernel_rfl) ?_
         refine AnyG.takeP (i:=2) (v:=?_) rfl (by kernel_rfl) (fun _ _ _ h => h) rfl ?_ ?_
         rotate_left
         ·(intro w'; go_simp; try with_reducible rfl)
         try simp only [Act.put,Sp1,Sp2,Sp3,Sp4,Sp5,Sp6]
         refine AnyG.takeP (i:=3) (v:=?_) rfl (by kernel_rfl) (fun _ _ _ h => h) rfl ?_ ?_
         rotate_left
         ·(intro w'; go_simp; try with_reducible rfl)
         try simp only [Act.put,Sp1,Sp2,Sp3,Sp4,Sp5,Sp6]
         refine AnyG.takeP (i:=5) (v:=?_) rfl (by kernel_rfl) (fun _ _ _ h => h) rfl ?_ ?_
         rotate_left
         ·(intro w'; go_simp; try with_reducible rfl)
         try simp only [Act.put,Sp1,Sp2,Sp3,Sp4,Sp5,Sp6]
         refine AnyG.enter (fun w' : World => Below Y6.heap.size Y6 w' ∧ Below U.heap.size U w') (fun i => true) ?_
         have hS : (fun w' : World => Below Y6.heap.size Y6 w' ∧ Below U.heap.size U w') (World.drew _):=⟨(Below.refl _ _).drew,hW.drew⟩
         refine AnyG.takeC (i:=0) (v:=?_) rfl (by kernel_rfl) (fun _ _ _ h => h) rfl ?_ hS ?_
         rotate_left
         ·(intro w' hSw; (try dsimp only at hSw); obtain ⟨l0,l1,l2,l3,lf2,lz⟩:=(k1U.call hSw.2).four; go_simp; try with_reducible rfl)
         try simp only [Act.put,Sp1,Sp2,Sp3,Sp4,Sp5,Sp6]
         refine AnyG.takeC (i:=1) (v:=?_) rfl (by kernel_rfl) (fun _ _ _ h => h) rfl ?_ hS ?_
         rotate_left
         ·(intro w' hSw; (try dsimp only at hSw); obtain ⟨x0,x1,xf,xz⟩:=(k2U.call hSw.2).two; go_simp; try with_reducible rfl)
         try simp only [Act.put,Sp1,Sp2,Sp3,Sp4,Sp5,Sp6]
         refine AnyG.one (i:=4) (by kernel_rfl) rfl rfl ?_
         go_simp
         refine (refSecond_any (some sa) (some ta) bn sc tc Lo Hi a c _ hbn4 HLO.out HHI.out (hSU.call hS.2) (hTU.call hS.2) han (by omega) (by omega)).mono ?_
         rintro e4 y4 ⟨⟨A4,c4,rfl,hN4⟩,hb4⟩
         refine Onward.on (show _ ∧ _ from ⟨hS.1.trans (hb4.mono hS.1.size),hS.2.trans (hb4.mono hS.2.size)⟩) (fun hS2 => ?_)
         clear hS
         have hS:=hS2
         clear hS2
         try simp only [Act.put,Sp1,Sp2,Sp3,Sp4,Sp5,Sp6]
         refine AnyG.one (i:=6) (by kernel_rfl) rfl rfl ?_
         go_simp
         refine (IH.out (Lo.set a (c + 1)) Hi A4 (some ta) c4 tc _ wu HXU.out HL2.out HHI.out (hAU.call hS.2) hN4 (hTU.call hS.2)).mono ?_
         rintro e6 Y9 ⟨⟨A9,c9,rfl,hY9,-⟩,hb9⟩
         refine Onward.on (show _ ∧ _ from ⟨hS.1.trans (hb9.mono hS.1.size),hS.2.trans (hb9.mono hS.2.size)⟩) (fun hS2 => ?_)
         clear hS
         have hS:=hS2
         clear hS2
         try simp only [Act.put,Sp1,Sp2,Sp3,Sp4,Sp5,Sp6]
         refine AnyG.takeC (i:=7) (v:=?_) rfl (by kernel_rfl) (fun _ _ _ h => h) rfl ?_ hS ?_
         rotate_left
         ·(intro w' hSw; (try dsimp only at hSw); go_simp; try with_reducible rfl)
         try simp only [Act.put,Sp1,Sp2,Sp3,Sp4,Sp5,Sp6]
         refine AnyG.takeC (i:=8) (v:=?_) rfl (by kernel_rfl) (fun _ _ _ h => h) rfl ?_ hS ?_
         rotate_left
         ·(intro w' hSw; (try dsimp only at hSw); go_simp; try with_reducible rfl)
         try simp only [Act.put,Sp1,Sp2,Sp3,Sp4,Sp5,Sp6]
         refine AnyG.takeC (i:=9) (v:=?_) rfl (by kernel_rfl) (fun _ _ _ h => h) rfl ?_ hS ?_
         rotate_left
         ·(intro w' hSw; (try dsimp only at hSw); go_simp; try with_reducible rfl)
         try simp only [Act.put,Sp1,Sp2,Sp3,Sp4,Sp5,Sp6]
         refine AnyG.takeC (i:=10) (v:=?_) rfl (by kernel_rfl) (fun _ _ _ h => h) rfl ?_ hS ?_
         rotate_left
         ·(intro w' hSw; (try dsimp only at hSw); go_simp; try with_reducible rfl)
         try simp only [Act.put,Sp1,Sp2,Sp3,Sp4,Sp5,Sp6]
         refine AnyG.takeC (i:=11) (v:=?_) rfl (by kernel_rfl) (fun _ _ _ h => h) rfl ?_ hS ?_
         rotate_left
         ·(intro w' hSw; (try dsimp only at hSw); go_simp; try with_reducible rfl)
         try simp only [Act.put,Sp1,Sp2,Sp3,Sp4,Sp5,Sp6]
         refine AnyG.done (by kernel_rfl) ?_ _
         have hW9 : Below U.heap.size U Y9:=hS.2
         have HB9 : Below Y6.heap.size Y6 Y9:=hS.1
         clear hS
         go_simp
         have hX9:=hX6.call (HB9)
         obtain ⟨Y,hYd⟩ : ∃ x,pln o p fuel (lf (Lo.set a (c + 1))) (lf Hi) = x:=⟨_,rfl⟩
         rw [hYd] at hY9 HPL ⊢
         have HYD:=Lib.hid hYd
         clear hYd
         obtain ⟨Y,bY⟩:=Y
         dsimp only at hY9 HPL ⊢
         obtain ⟨xl,yl⟩:=HPL.out
         have oB:=made69 (w:=Y9) (b:=Y9.heap.size) ⟨1,(a : Int),c⟩ (Nat.le_refl _)
         have BB:=(Below.refl Y9.heap.size Y9).alloc (Nat.le_refl _) (.cells #[.int .i64 1,.int .i64 (a : Int),.int .i64 c] 69)
         have nX:=sl_news (hX9.call BB) (by omega) (bdr_len X)
         have NX:=Lib.hid nX
         have epl : pln o p (fuel + 1) (lf Lo) (lf Hi) = (⟨1,(a : Int),c⟩ :: (X ++ Y),bX && bY):=by
          conv => lhs; unfold pln
          rw [HRN.out]
          dsimp only
          rw [if_neg (by rw [HMATH.out.1]; simp),HMATH.out.2.1,HMATH.out.2.2,← HE.out.1,← HE.out.2,HXD.out,HYD.out]
         have HEPL:=Lib.hid epl
         clear nX epl
         cases bX
         ·cases bY
          ·go_wp2_with (first
            | (at_builtin; refine wpList_app3 rfl (.tmp 108) (.tmp 109) 51 rfl Y9.heap.size 69 i69 _ 3 24 Try.underlying51 hi69 hz69 hs69 iy69 rfl (by decide) (.slice (some ⟨Y9.heap.size,0,none⟩) 1 1) 1 (bdr ⟨1,(a : Int),c⟩) rfl oB A6 X.length c6 (bdrs X) rfl (bdrs_len X) NX.out (bdrs_cell X) (by unfold maxLen; omega) (by omega) BB.size ?_; intro v1 w1 o1 g1 r1; obtain ⟨A1,c1,rfl⟩:=own_shape o1; have B1:=BB.grown g1 BB.size (fun q e => (oB.lt q e).1))
            | (at_builtin; refine wpList_app3 rfl (.tmp 110) (.tmp 111) 51 rfl Y9.heap.size 69 i69 _ 3 24 Try.underlying51 hi69 hz69 hs69 iy69 rfl (by decide) (.slice A1 (1 + X.length) c1) (1 + X.length) (bdr ⟨1,(a : Int),c⟩ ++ bdrs X) rfl o1 A9 Y.length c9 (bdrs Y) rfl (bdrs_len Y) (sl_news (hY9.call B1) (by omega) (bdr_len Y)) (bdrs_cell Y) (by unfold maxLen; omega) (by omega) B1.size ?_; intro v2 w2 o2 g2 r2; obtain ⟨A2,c2,rfl⟩:=own_shape o2; have B2:=B1.grown g2 B1.size (fun q e => (o1.lt q e).1))
            | fail)
           have e : 1 + X.length + Y.length = (⟨1,(a : Int),c⟩ :: (X ++ Y) : List Bd).length:=by simp; omega
           rw [e] at o2 ⊢
           rw [← bdrs_cut] at o2
           have hSl : Sl w2 w2.heap.size 3 A2 ((⟨1,(a : Int),c⟩ :: (X ++ Y) : List Bd).map bdr):=by
            obtain ⟨A',c',e1,e2⟩:=own_sl (rs:=(⟨1,(a : Int),c⟩ :: (X ++ Y) : List Bd).map bdr) o2 (bdr_len _) (by rw [List.length_map])
            simp only [Value.slice.injEq,true_and] at e1
            obtain ⟨rfl,rfl⟩:=e1
            exact e2
           have BT:=hW9.trans (B2.mono hW9.size)
           refine bodyPost_ret (v:=.tuple #[.slice A2 (⟨1,(a : Int),c⟩ :: (X ++ Y) : List Bd).length c2,.bool false]) (by simp [results,Try.results78,go_sem]) rfl ⟨⟨_,_,by rw [HEPL.out]; rfl,by rw [HEPL.out]; exact hSl,by rw [HEPL.out]; exact own_le o2⟩,BU.trans (BT.mono BU.size)⟩
          ·go_wp2_with (first
            | (at_builtin; refine wpList_app3 rfl (.tmp 108) (.tmp 109) 51 rfl Y9.heap.size 69 i69 _ 3 24 Try.underlying51 hi69 hz69 hs69 iy69 rfl (by decide) (.slice (some ⟨Y9.heap.size,0,none⟩) 1 1) 1 (bdr ⟨1,(a : Int),c⟩) rfl oB A6 X.length c6 (bdrs X) rfl (bdrs_len X) NX.out (bdrs_cell X) (by unfold maxLen; omega) (by omega) BB.size ?_; intro v1 w1 o1 g1 r1; obtain ⟨A1,c1,rfl⟩:=own_shape o1; have B1:=BB.grown g1 BB.size (fun q e => (oB.lt q e).1))
            | (at_builtin; refine wpList_app3 rfl (.tmp 110) (.tmp 111) 51 rfl Y9.heap.size 69 i69 _ 3 24 Try.underlying51 hi69 hz69 hs69 iy69 rfl (by decide) (.slice A1 (1 + X.length) c1) (1 + X.length) (bdr ⟨1,(a : Int),c⟩ ++ bdrs X) rfl o1 A9 Y.length c9 (bdrs Y) rfl (bdrs_len Y) (sl_news (hY9.call B1) (by omega) (bdr_len Y)) (bdrs_cell Y) (by unfold maxLen; omega) (by omega) B1.size ?_; intro v2 w2 o2 g2 r2; obtain ⟨A2,c2,rfl⟩:=own_shape o2; have B2:=B1.grown g2 B1.size (fun q e => (o1.lt q e).1))
            | fail)
           have e : 1 + X.length + Y.length = (⟨1,(a : Int),c⟩ :: (X ++ Y) : List Bd).length:=by simp; omega
           rw [e] at o2 ⊢
           rw [← bdrs_cut] at o2
           have hSl : Sl w2 w2.heap.size 3 A2 ((⟨1,(a : Int),c⟩ :: (X ++ Y) : List Bd).map bdr):=by
            obtain ⟨A',c',e1,e2⟩:=own_sl (rs:=(⟨1,(a : Int),c⟩ :: (X ++ Y) : List Bd).map bdr) o2 (bdr_len _) (by rw [List.length_map])
            simp only [Value.slice.injEq,true_and] at e1
            obtain ⟨rfl,rfl⟩:=e1
            exact e2
           have BT:=hW9.trans (B2.mono hW9.size)
           refine bodyPost_ret (v:=.tuple #[.slice A2 (⟨1,(a : Int),c⟩ :: (X ++ Y) : List Bd).length c2,.bool false]) (by simp [results,Try.results78,go_sem]) rfl ⟨⟨_,_,by rw [HEPL.out]; rfl,by rw [HEPL.out]; exact hSl,by rw [HEPL.out]; exact own_le o2⟩,BU.trans (BT.mono BU.size)⟩
         ·cases bY
          ·go_wp2_with (first
            | (at_builtin; refine wpList_app3 rfl (.tmp 108) (.tmp 109) 51 rfl Y9.heap.size 69 i69 _ 3 24 Try.underlying51 hi69 hz69 hs69 iy69 rfl (by decide) (.slice (some ⟨Y9.heap.size,0,none⟩) 1 1) 1 (bdr ⟨1,(a : Int),c⟩) rfl oB A6 X.length c6 (bdrs X) rfl (bdrs_len X) NX.out (bdrs_cell X) (by unfold maxLen; omega) (by omega) BB.size ?_; intro v1 w1 o1 g1 r1; obtain ⟨A1,c1,rfl⟩:=own_shape o1; have B1:=BB.grown g1 BB.size (fun q e => (oB.lt q e).1))
            | (at_builtin; refine wpList_app3 rfl (.tmp 110) (.tmp 111) 51 rfl Y9.heap.size 69 i69 _ 3 24 Try.underlying51 hi69 hz69 hs69 iy69 rfl (by decide) (.slice A1 (1 + X.length) c1) (1 + X.length) (bdr ⟨1,(a : Int),c⟩ ++ bdrs X) rfl o1 A9 Y.length c9 (bdrs Y) rfl (bdrs_len Y) (sl_news (hY9.call B1) (by omega) (bdr_len Y)) (bdrs_cell Y) (by unfold maxLen; omega) (by omega) B1.size ?_; intro v2 w2 o2 g2 r2; obtain ⟨A2,c2,rfl⟩:=own_shape o2; have B2:=B1.grown g2 B1.size (fun q e => (o1.lt q e).1))
            | fail)
           have e : 1 + X.length + Y.length = (⟨1,(a : Int),c⟩ :: (X ++ Y) : List Bd).length:=by simp; omega
           rw [e] at o2 ⊢
           rw [← bdrs_cut] at o2
           have hSl : Sl w2 w2.heap.size 3 A2 ((⟨1,(a : Int),c⟩ :: (X ++ Y) : List Bd).map bdr):=by
            obtain ⟨A',c',e1,e2⟩:=own_sl (rs:=(⟨1,(a : Int),c⟩ :: (X ++ Y) : List Bd).map bdr) o2 (bdr_len _) (by rw [List.length_map])
            simp only [Value.slice.injEq,true_and] at e1
            obtain ⟨rfl,rfl⟩:=e1
            exact e2
           have BT:=hW9.trans (B2.mono hW9.size)
           refine bodyPost_ret (v:=.tuple #[.slice A2 (⟨1,(a : Int),c⟩ :: (X ++ Y) : List Bd).length c2,.bool false]) (by simp [results,Try.results78,go_sem]) rfl ⟨⟨_,_,by rw [HEPL.out]; rfl,by rw [HEPL.out]; exact hSl,by rw [HEPL.out]; exact own_le o2⟩,BU.trans (BT.mono BU.size)⟩
          ·go_wp2_with (first
            | (at_builtin; refine wpList_app3 rfl (.tmp 108) (.tmp 109) 51 rfl Y9.heap.size 69 i69 _ 3 24 Try.underlying51 hi69 hz69 hs69 iy69 rfl (by decide) (.slice (some ⟨Y9.heap.size,0,none⟩) 1 1) 1 (bdr ⟨1,(a : Int),c⟩) rfl oB A6 X.length c6 (bdrs X) rfl (bdrs_len X) NX.out (bdrs_cell X) (by unfold maxLen; omega) (by omega) BB.size ?_; intro v1 w1 o1 g1 r1; obtain ⟨A1,c1,rfl⟩:=own_shape o1; have B1:=BB.grown g1 BB.size (fun q e => (oB.lt q e).1))
            | (at_builtin; refine wpList_app3 rfl (.tmp 110) (.tmp 111) 51 rfl Y9.heap.size 69 i69 _ 3 24 Try.underlying51 hi69 hz69 hs69 iy69 rfl (by decide) (.slice A1 (1 + X.length) c1) (1 + X.length) (bdr ⟨1,(a : Int),c⟩ ++ bdrs X) rfl o1 A9 Y.length c9 (bdrs Y) rfl (bdrs_len Y) (sl_news (hY9.call B1) (by omega) (bdr_len Y)) (bdrs_cell Y) (by unfold maxLen; omega) (by omega) B1.size ?_; intro v2 w2 o2 g2 r2; obtain ⟨A2,c2,rfl⟩:=own_shape o2; have B2:=B1.grown g2 B1.size (fun q e => (o1.lt q e).1))
            | fail)
           have e : 1 + X.length + Y.length = (⟨1,(a : Int),c⟩ :: (X ++ Y) : List Bd).length:=by simp; omega
           rw [e] at o2 ⊢
           rw [← bdrs_cut] at o2
           have hSl : Sl w2 w2.heap.size 3 A2 ((⟨1,(a : Int),c⟩ :: (X ++ Y) : List Bd).map bdr):=by
            obtain ⟨A',c',e1,e2⟩:=own_sl (rs:=(⟨1,(a : Int),c⟩ :: (X ++ Y) : List Bd).map bdr) o2 (bdr_len _) (by rw [List.length_map])
            simp only [Value.slice.injEq,true_and] at e1
            obtain ⟨rfl,rfl⟩:=e1
            exact e2
           have BT:=hW9.trans (B2.mono hW9.size)
           refine bodyPost_ret (v:=.tuple #[.slice A2 (⟨1,(a : Int),c⟩ :: (X ++ Y) : List Bd).length c2,.bool true]) (by simp [results,Try.results78,go_sem]) rfl ⟨⟨_,_,by rw [HEPL.out]; rfl,by rw [HEPL.out]; exact hSl,by rw [HEPL.out]; exact own_le o2⟩,BU.trans (BT.mono BU.size)⟩
       ·obtain rfl : a = bn:=by omega
        have hone : one4 (lf Lo) (lf Hi) = true:=one4_yes fun i hi => by
         by_cases e : i < a
         ·exact hsm.out i e
         ·rw [lf_out (by rw [HLO.out]; omega),lf_out (by rw [HHI.out]; omega)]
        have epl : pln o p (fuel + 1) (lf Lo) (lf Hi) = ([],false):=by unfold pln; rw [HRN.out]; simp [hone]
        have HEPL:=Lib.hid epl
        clear hone epl
        go_wp2_with fail
        refine bodyPost_ret (v:=.tuple #[.slice none 0 0,.bool false]) (by simp [results,Try.results78,go_sem]) rfl ⟨⟨_,_,by rw [HEPL.out]; rfl,by rw [HEPL.out]; exact Sl.nil _ _ _ _,by rw [HEPL.out]; exact Nat.le_refl _⟩,BU.trans (hBr.mono BU.size)⟩
end Go.Proofs.Ytmemcopfeabcgaa
