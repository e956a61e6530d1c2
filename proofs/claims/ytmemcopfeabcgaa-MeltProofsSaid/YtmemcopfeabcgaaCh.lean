/- melt.Cheapest. -/
import Derived.Test.YtmemcopfeabcgaaCzM
import Derived.Test.YtmemcopfeabcgaaLxM
set_option linter.unusedSimpArgs false
set_option linter.unusedVariables false
namespace Go.Proofs.Ytmemcopfeabcgaa
open Go Go.RowKit Go.Shelf
attribute [local go_sem] Oper.semAt_some
/-- What follows a statement that ends normally. -/
def OnlyN (K : Act → World → Prop) : Exit → Act → World → Prop
 | .normal,a,w => K a w
 | _,_,_ => False
theorem wp_only {P : Program} {s : Code} {K : Act → World → Prop} {Q' : Exit → Act → World → Prop} {a : Act} {w : World} (h : s.wp P (OnlyN K) a w) : s.wp P (Exit.then K Q') a w:=by
 refine wp_mono h ?_
 intro e a' w' hq
 cases e with
 | normal => exact hq
 | _ => exact hq.elim
theorem onlyN_go {K : Act → World → Prop} {a : Act} {w : World} (h : K a w) : OnlyN K .normal a w:=h
def ivs (n : Nat) (d : Nat → Int) : List Value:=(List.range n).map fun i => .int .i64 (d i)
theorem ivs_len (n : Nat) (d : Nat → Int) : (ivs n d).length = n * 1:=by simp [ivs]
theorem ivs_one (n : Nat) (d : Nat → Int) : ∀ u ∈ ivs n d,u.oneCell' = true:=by
 intro u hu
 obtain ⟨i,_,rfl⟩:=List.mem_map.1 hu
 rfl
/-- What Cheapest gives for what it has found. -/
def CheapV (o : Od) (bn b : Nat) (V : World) (x c : Value) : Option (Nat → Int) → Prop
 | none => x = .slice none 0 0 ∧ c = .int .i64 0
 | some d => c = .int .i64 (cst o d bn) ∧ ∃ q C,x = .slice (some ⟨q,0,none⟩) bn C ∧ V.ownsRow b 3 1 (.slice (some ⟨q,0,none⟩) bn C) bn (ivs bn d)
theorem CheapV.grown {o : Od} {bn b : Nat} {V V' : World} {x c : Value} {r : Option (Nat → Int)} {row : Option Nat} (h : CheapV o bn b V x c r) (hg : V.grownBy V' row) (hr : ∀ k,row = some k → k < b) : CheapV o bn b V' x c r:=by
 cases r with
 | none => exact h
 | some d =>
  obtain ⟨h1,q,C,h2,h3⟩:=h
  refine ⟨h1,q,C,h2,h3.kept hg ?_⟩
  cases row with
  | none => right; simp [Value.ownBlock]
  | some k =>
   right
   have:=(h3.lt q rfl).1
   have:=hr k rfl
   simp [Value.ownBlock]
   omega
theorem own_some {w : World} {b n c : Nat} {t : TypeId} {s : Nat} {A : Option Addr} {xs : List Value} (h : w.ownsRow b t s (.slice A n c) n xs) (hn : 0 < n) : ∃ q,A = some ⟨q,0,none⟩:=by
 rcases h.2 with ⟨h,h0⟩ | ⟨q,cap,cur,h,_⟩
 ·omega
 ·simp only [Value.slice.injEq] at h
  exact ⟨q,h.1⟩
theorem ownsRow_up {w : World} {b b' : Nat} {e : TypeId} {size : Nat} {v : Value} {n : Nat} {xs : List Value} (h : w.ownsRow b e size v n xs) (hb : ∀ k,v.ownBlock = some k → b' ≤ k) : w.ownsRow b' e size v n xs:=by
 refine ⟨h.1,?_⟩
 rcases h.2 with h2 | ⟨g,cap,cur,rfl,_,r⟩
 ·exact .inl h2
 ·exact .inr ⟨g,cap,cur,rfl,hb g (by simp [Value.ownBlock]),r⟩
theorem ivs_congr {n : Nat} {d f : Nat → Int} (hn : n ≤ 4) (h : ∀ i,i < 4 → d i = f i) : ivs n d = ivs n f:=by
 unfold ivs
 refine List.map_congr_left fun i hi => ?_
 rw [h i (by have:=List.mem_range.1 hi; omega)]
theorem ivs_cells {w : World} {q n : Nat} {d : Nat → Int} (h : Bx w q 81 (barr d)) (hn : n ≤ 4) : ∀ j u,(ivs n d)[j]? = some u → w.cell? ((⟨q,0,none⟩ : Addr).add j) = some u:=by
 intro j u hu
 have hj : j < n:=by simpa [ivs] using (List.getElem?_eq_some_iff.1 hu).1
 have e : (⟨q,0,none⟩ : Addr).add j = ⟨q,j,none⟩:=by unfold Addr.add; split <;> simp_all
 rw [e,h.cell j,barr_get d (by omega)]
 simpa [ivs,hj] using hu
theorem seek_in {o : Od} {r : Option (Nat → Int)} {d D : Nat → Int} (hk : o.bs.length ≤ 4) (he : ∀ i,i < 4 → d i = D i) (h1 : lesser o D r = true) (h2 : Good o D) : seekS o r d = some d:=by
 have h3 : lesser o d r = true:=by
  cases r with
  | none => rfl
  | some m => simp only [lesser] at h1 ⊢; rw [cst_four hk he]; exact h1
 unfold seekS
 rw [if_pos ⟨h3,(good_four hk he).2 h2⟩]
theorem KeepMid.set_ {lo b : Nat} {W : World} (p : Addr) (hp : p.block < lo) (v : Value) : KeepMid lo b W (W.setCell p v) :=
 ⟨by simp [World.setCell],fun k h1 _ => Below.heap_setCell W p v k (by omega)⟩
theorem seek_out {o : Od} {r : Option (Nat → Int)} {d D : Nat → Int} (hk : o.bs.length ≤ 4) (he : ∀ i,i < 4 → d i = D i) (h : ¬ (lesser o D r = true ∧ Good o D)) : seekS o r d = r:=by
 unfold seekS
 rw [if_neg]
 rintro ⟨h1,h2⟩
 refine h ⟨?_,(good_four hk he).1 h2⟩
 cases r with
 | none => rfl
 | some m => simp only [lesser] at h1 ⊢; rw [← cst_four hk he]; exact h1
set_option maxRecDepth 100000 in
set_option maxHeartbeats 4000000 in
theorem cheapest_ok (LA : Option Addr) (ln lc : Nat) (BA : Option Addr) (bn bc : Nat) (o : Od) (w : World) (hln : ln ≤ 9223372036854775807) (hbn : bn ≤ 9223372036854775807) (hl : o.lm.length = ln) (hb' : o.bs.length = bn) (hA : OrdAt w w.heap.size LA BA o) (ho : o.Ok) :
  Calls Try.prog 20 #[.agg #[.slice LA ln lc,.int .i64 o.le,.int .i64 o.mo,.slice BA bn bc]] w fun e w' => (∃ r x c,Cheap o r ∧ e = .returned (.tuple #[x,c,.int .i64 (if r.isSome = true then 0 else 13)]) ∧ CheapV o bn w.heap.size w' x c r) ∧ Below w.heap.size w w':=by
 have k1:=((Bx.new w 27 #[.slice LA ln lc,.int .i64 o.le,.int .i64 o.mo,.slice BA bn bc]).alloc (.cells #[.slice none 0 0] 22)).alloc (.cells #[.int .i64 0] 3)
 have k2:=(Bx.at (w.alloc (.cells #[.slice LA ln lc,.int .i64 o.le,.int .i64 o.mo,.slice BA bn bc] 27)) 22 #[.slice none 0 0] (n:=w.heap.size + 1) (by simp)).alloc (.cells #[.int .i64 0] 3)
 have k3:=Bx.at ((w.alloc (.cells #[.slice LA ln lc,.int .i64 o.le,.int .i64 o.mo,.slice BA bn bc] 27)).alloc (.cells #[.slice none 0 0] 22)) 3 #[.int .i64 0] (n:=w.heap.size + 1 + 1) (by simp)
 have B0:=(((Below.refl w.heap.size w).alloc (Nat.le_refl _) (.cells #[.slice LA ln lc,.int .i64 o.le,.int .i64 o.mo,.slice BA bn bc] 27)).alloc (by simp) (.cells #[.slice none 0 0] 22)).alloc (by simp; omega) (.cells #[.int .i64 0] 3)
 have hck:=fun w' (hb : Below w.heap.size w w') => check_any LA ln lc o.le o.mo BA bn bc o w' hln hbn hl hb' rfl rfl ((hA.below hb).more hb.size) (fun b hb2 => by have:=(ho.bs b hb2).len; have:=ho.lm; omega)
 rw [ckO_zero.2 ho] at hck
 have HCK:=Lib.hid hck
 have HB:=Lib.hid hb'
 have HL:=Lib.hid hl
 have HO:=Lib.hid ho
 have hbn4 : bn ≤ 4:=by rw [← hb']; exact ho.b2
 have hbn1 : 1 ≤ bn:=by rw [← hb']; exact ho.b1
 clear hck hb' hl ho
 refine (callsIn_wide (n:=5)).1 ?_
 refine callsIn_of_wp_marks Try.func20 rfl trivial ?_ rfl
 refine wpIn_wide.2 ?_
 simp only [Try.ntmps20,List.size_toArray,List.length_cons,List.length_nil,Nat.reduceAdd,Nat.reduceSub,Array.replicate_succ,Array.replicate_zero,List.push_toArray,List.append_toArray,List.nil_append,List.cons_append]
 go_wp2_with (first
  | (go_at_call 37; refine (HCK.out _ B0).mono ?_; rintro e w1 ⟨rfl,hb1⟩; replace k1:=k1.call hb1; replace k2:=k2.call hb1; replace k3:=k3.call hb1; replace B0:=B0.trans (hb1.mono B0.size); obtain ⟨c0,c1,c2,c3,cf,cz⟩:=k1.four)
  | (go_at_call 57; refine (wholeBox_any LA ln lc BA bn bc o _ HL.out HB.out ((hA.below B0).more B0.size) HO.out).mono ?_; rintro e w2 ⟨rfl,hb2⟩; replace k1:=k1.call hb2; replace k2:=k2.call hb2; replace k3:=k3.call hb2; have hw2:=k3.lt; replace B0:=B0.trans (hb2.mono B0.size); clear c0 c1 c2 c3 cf cz)
  | (go_at_call 58; refine (blends_any zer o.mx _).mono ?_; rintro e w3 ⟨⟨rfl,kx⟩,hb3⟩; replace k1:=k1.call hb3; replace k2:=k2.call hb3; replace k3:=k3.call hb3; replace B0:=B0.trans (hb3.mono B0.size)))
 have hx3:=kx.lt
 have hs3 : w2.heap.size < w3.heap.size:=kx.lt
 refine (wpIn_wide (n:=5)).1 ?_
 refine range_bx (F:=Fence.wide) rfl (by omega) (gf:=84) (lb:=#[.pointer (some ⟨w2.heap.size,0,none⟩)]) rfl trivial (enters_of Try.func84 (by kernel_rfl) rfl)
  (blends_in (5 - 1) (by omega) w2.heap.size zer o.mx HO.out.mx w3 kx) (fun h k => Eq.trans k h) (fun W l ob hl => World.putObj_heap_other (by omega)) (Below.refl _ _) (fun _ => rfl)
  (fun b pre V => Bx V w.heap.size 27 #[.slice LA ln lc,.int .i64 o.le,.int .i64 o.mo,.slice BA bn bc] ∧ (∃ x c,Bx V (w.heap.size + 1) 22 #[x] ∧ Bx V (w.heap.size + 1 + 1) 3 #[c] ∧ CheapV o bn b V x c (foldS o (pre.map (·.1)))) ∧ Bx V w2.heap.size 91 (xarr zer o.mx) ∧ Below w.heap.size w V)
  ?hI ?h0
  (fun b x a' V => ∃ q,b ≤ q ∧ a' = { tmps:=#[.agg #[.slice LA ln lc,.int .i64 o.le,.int .i64 o.mo,.slice BA bn bc],.pointer (some ⟨w.heap.size,0,none⟩),.pointer (some ⟨w.heap.size + 1,0,none⟩),.pointer (some ⟨w.heap.size + 1 + 1,0,none⟩),.int .i64 0,.int .i64 0,.pointer (some ⟨q,0,none⟩),undef,undef,undef,.agg #[.slice LA ln lc,.int .i64 o.le,.int .i64 o.mo,.slice BA bn bc],.int .i64 0,.int .i64 0,.bool false,undef,.agg #[.slice LA ln lc,.int .i64 o.le,.int .i64 o.mo,.slice BA bn bc],.agg (xarr zer o.mx),.func (.func 84) #[] #[.pointer (some ⟨w2.heap.size,0,none⟩)],.agg (barr x.1),undef,undef,undef,undef,undef,undef,undef,undef,undef,undef,undef,undef,undef,undef,undef,undef,undef,undef,undef,undef,undef,undef,undef,undef,undef,undef,undef,undef,undef],defers:=[] } ∧ Bx V q 81 (barr x.1)) ?hAx ?assign ?body ?done
 case hI =>
  rintro b s A B row ⟨i1,⟨x,c,i2,i3,i4⟩,i5,i6⟩ hb hg hr
  have ne : ∀ k,k < w3.heap.size → some k ≠ row:=fun k hk e => by have:=hr k e.symm; omega
  exact ⟨i1.grown hg (ne _ (by omega)),⟨x,c,i2.grown hg (ne _ (by omega)),i3.grown hg (ne _ (by omega)),i4.grown hg fun k e => (hr k e).2⟩,i5.grown hg (ne _ hs3),i6.grown hg i6.size fun k e => by have:=hr k e; omega⟩
 case h0 =>
  rintro W hb
  exact ⟨k1.call hb,⟨_,_,k2.call hb,k3.call hb,rfl,rfl⟩,kx.call hb,B0.trans (hb.mono (by omega))⟩
 case hAx =>
  rintro b x a' A l ob ⟨q,h1,h2,h3⟩ hl hlb
  exact ⟨q,h1,h2,(World.putObj_heap_other (by omega)).trans h3⟩
 case assign =>
  rintro l b pre x V K hwb hbV ⟨i1,⟨v,c,i2,i3,i4⟩,i5,i6⟩ hK
  have hB:=(Below.refl V.heap.size V).alloc (Nat.le_refl _) (.cells (barr x.1) 81)
  have hfin:=hK { tmps:=#[.agg #[.slice LA ln lc,.int .i64 o.le,.int .i64 o.mo,.slice BA bn bc],.pointer (some ⟨w.heap.size,0,none⟩),.pointer (some ⟨w.heap.size + 1,0,none⟩),.pointer (some ⟨w.heap.size + 1 + 1,0,none⟩),.int .i64 0,.int .i64 0,.pointer (some ⟨V.heap.size,0,none⟩),undef,undef,undef,.agg #[.slice LA ln lc,.int .i64 o.le,.int .i64 o.mo,.slice BA bn bc],.int .i64 0,.int .i64 0,.bool false,undef,.agg #[.slice LA ln lc,.int .i64 o.le,.int .i64 o.mo,.slice BA bn bc],.agg (xarr zer o.mx),.func (.func 84) #[] #[.pointer (some ⟨w2.heap.size,0,none⟩)],.agg (barr x.1),undef,undef,undef,undef,undef,undef,undef,undef,undef,undef,undef,undef,undef,undef,undef,undef,undef,undef,undef,undef,undef,undef,undef,undef,undef,undef,undef,undef,undef],defers:=[] } (V.alloc (.cells (barr x.1) 81)) (KeepMid.below hB hbV) (hB.block _ (by have:=i5.lt; omega)) ⟨i1.alloc _,⟨v,c,i2.alloc _,i3.alloc _,i4.grown (row:=none) (grown_below hB) (fun k e => by cases e)⟩,i5.alloc _,i6.alloc i6.size _⟩ ⟨V.heap.size,hbV,rfl,Bx.new _ _ _⟩
  rw [barr_def] at hfin ⊢
  gi_wp2_with fail
  exact hfin
 case body =>
  rintro l b pre x a' V hwb hbV ⟨i1,⟨v,c,i2,i3,i4⟩,i5,i6⟩ ⟨q,hbq,rfl,hqx⟩ hlen
  obtain ⟨D,hD⟩ : ∃ D,cl4 x.1 = D:=⟨_,rfl⟩
  have hxD : ∀ i,i < 4 → x.1 i = D i:=fun i hi => by rw [← hD,cl4_eq _ hi]
  have HD6 : Hid (Six D):=Lib.hid (by rw [← hD]; exact InB.six4 HO.out.mx x.2)
  have hqD : Bx V q 81 (barr D):=by rw [← barr_congr hxD]; exact hqx
  have hbL : o.bs.length ≤ 4:=HO.out.b2
  obtain ⟨C0,hC⟩ : ∃ C0,cst o D bn = C0:=⟨_,rfl⟩
  obtain ⟨KL,hKL⟩ : ∃ KL,kil o D bn = KL:=⟨_,rfl⟩
  have HC:=Lib.hid hC
  have HKL:=Lib.hid hKL
  have HXD:=Lib.hid hxD
  obtain ⟨r,hr⟩ : ∃ r,foldS o (pre.map (·.1)) = r:=⟨_,rfl⟩
  have HR : Hid (foldS o ((pre ++ [x]).map (·.1)) = seekS o r x.1):=by unfold Hid; rw [List.map_append,List.map_cons,List.map_nil,foldS_snoc,hr]
  rw [hr] at i4
  clear hr hC hKL hD hqx hxD hlen
  obtain ⟨o0,o1,o2,o3,of,oz⟩:=i1.four
  obtain ⟨d0,d1,d2,d3,df,dz⟩:=hqD.barr
  have hsb : ∀ V',Below V.heap.size V V' → V'.heap[w2.heap.size]? = V.heap[w2.heap.size]?:=fun V' h => h.block _ (by omega)
  refine wpIn_block ?_
  cases r with
  | none =>
   obtain ⟨rfl,rfl⟩:=i4
   have hnil:=nil_yes
   have i4 : CheapV o bn b V (.slice none 0 0) (.int .i64 0) none:=⟨rfl,rfl⟩
   by_cases hg : Good o D
   ·have HGD : Hid (decide (Good o D) = true):=Lib.hid (decide_eq_true hg)
    have HS : Hid (foldS o ((pre ++ [x]).map (·.1)) = some x.1):=by unfold Hid; rw [HR.out]; exact seek_in hbL HXD.out rfl hg
    clear hg
    gi_wp2_with fail
    refine ⟨trivial,?_⟩
    rw [← barr_def D]
    refine (CallsIn.inRound l (callsIn_wide.2 (weigh_any LA ln lc BA bn bc o D _ HL.out HB.out ((hA.below i6).more i6.size) HO.out HD6.out))).mono ?_
    rintro e V1 ⟨rfl,hc1⟩
    rw [HC.out,HKL.out]
    have j1:=i1.call hc1
    have j2:=i2.call hc1
    have j3:=i3.call hc1
    have j5:=i5.call hc1
    have jq:=hqD.call hc1
    have j6:=i6.trans (hc1.mono i6.size)
    clear o0 o1 o2 o3 of oz d0 d1 d2 d3 df dz
    obtain ⟨o0,o1,o2,o3,of,oz⟩:=j1.four
    obtain ⟨d0,d1,d2,d3,df,dz⟩:=jq.barr
    obtain ⟨v0,vf,vz⟩:=j2.one
    obtain ⟨c0,cf,cz⟩:=j3.one
    gi_wp2_with fail
    refine ⟨trivial,?_⟩
    rw [← barr_def D]
    refine (CallsIn.inRound l (callsIn_wide.2 (isGood_any LA ln lc BA bn bc o D _ HL.out HB.out ((hA.below j6).more j6.size) HO.out HD6.out))).mono ?_
    rintro e V2 ⟨rfl,hc2⟩
    rw [HGD.out]
    have m1:=j1.call hc2
    have m2:=j2.call hc2
    have m3:=j3.call hc2
    have m5:=j5.call hc2
    have mq:=jq.call hc2
    have m6:=j6.trans (hc2.mono j6.size)
    have hc12:=hc1.trans (hc2.mono hc1.size)
    clear o0 o1 o2 o3 of oz d0 d1 d2 d3 df dz v0 vf vz c0 cf cz
    obtain ⟨o0,o1,o2,o3,of,oz⟩:=m1.four
    obtain ⟨d0,d1,d2,d3,df,dz⟩:=mq.barr
    obtain ⟨v0,vf,vz⟩:=m2.one
    obtain ⟨c0,cf,cz⟩:=m3.one
    have hq4:=ivs_cells mq hbn4
    have hbni : (bn : Int) ≤ 4:=by omega
    gi_wp2_with fail
    refine ⟨trivial,?_⟩
    refine (CallsIn.inRound l (callsIn_wide.2 (clone_any ⟨q,0,none⟩ bn 4 (ivs bn D) _ (by omega) (ivs_len bn D) (ivs_one bn D) hq4))).mono ?_
    rintro e V3 ⟨⟨A',C',rfl,how⟩,hc3⟩
    obtain ⟨q',rfl⟩:=own_some how (by omega)
    have n1:=m1.call hc3
    have n2:=m2.call hc3
    have n3:=m3.call hc3
    have n5:=m5.call hc3
    have n6:=m6.trans (hc3.mono m6.size)
    have hc123:=hc12.trans (hc3.mono hc12.size)
    clear o0 o1 o2 o3 of oz d0 d1 d2 d3 df dz v0 vf vz c0 cf cz
    obtain ⟨v0,vf,vz⟩:=n2.one
    obtain ⟨c0,cf,cz⟩:=n3.one
    have hq':=(how.lt q' rfl).1
    have hz2:=hc12.size
    have hcv : CheapV o bn b V3 (.slice (some ⟨q',0,none⟩) bn C') (.int .i64 C0) (some x.1) :=
     ⟨by rw [cst_four hbn4 HXD.out,HC.out],q',C',rfl,by rw [ivs_congr hbn4 HXD.out]; exact ownsRow_up how (fun k e => by have:=(how.lt k e).1; omega)⟩
    have hcv2:=(hcv.grown (grown_set V3 (w.heap.size + 1) 0 (.slice (some ⟨q',0,none⟩) bn C')) (fun k e => by cases e; omega)).grown (grown_set _ (w.heap.size + 1 + 1) 0 (.int .i64 C0)) (fun k e => by cases e; omega)
    gi_wp2_with fail
    refine ⟨trivial,((KeepMid.below hc123 hbV).trans (KeepMid.set_ _ (by simp; omega) _)).trans (KeepMid.set_ _ (by simp; omega) _),?_,(n1.far (by simp) _).far (by simp; omega) _,⟨_,_,(n2.set_ 0 _).far (by simp) _,(n3.far (by simp) _).set_ 0 _,by rw [HS.out]; exact hcv2⟩,(n5.far (by simp; omega) _).far (by simp; omega) _,(n6.setCell (by simp) _).setCell (by simp; omega) _⟩
    exact (Below.heap_setCell _ _ _ _ (by simp; omega)).trans ((Below.heap_setCell _ _ _ _ (by simp; omega)).trans (hsb _ hc123))
   ·have HGD : Hid (decide (Good o D) = false):=Lib.hid (decide_eq_false hg)
    have HS : Hid (foldS o ((pre ++ [x]).map (·.1)) = none):=by unfold Hid; rw [HR.out]; exact seek_out hbL HXD.out (fun h => hg h.2)
    clear hg
    gi_wp2_with fail
    refine ⟨trivial,?_⟩
    rw [← barr_def D]
    refine (CallsIn.inRound l (callsIn_wide.2 (weigh_any LA ln lc BA bn bc o D _ HL.out HB.out ((hA.below i6).more i6.size) HO.out HD6.out))).mono ?_
    rintro e V1 ⟨rfl,hc1⟩
    rw [HC.out,HKL.out]
    have j1:=i1.call hc1
    have j2:=i2.call hc1
    have j3:=i3.call hc1
    have j5:=i5.call hc1
    have jq:=hqD.call hc1
    have j6:=i6.trans (hc1.mono i6.size)
    clear o0 o1 o2 o3 of oz d0 d1 d2 d3 df dz
    obtain ⟨o0,o1,o2,o3,of,oz⟩:=j1.four
    obtain ⟨d0,d1,d2,d3,df,dz⟩:=jq.barr
    obtain ⟨v0,vf,vz⟩:=j2.one
    obtain ⟨c0,cf,cz⟩:=j3.one
    gi_wp2_with fail
    refine ⟨trivial,?_⟩
    rw [← barr_def D]
    refine (CallsIn.inRound l (callsIn_wide.2 (isGood_any LA ln lc BA bn bc o D _ HL.out HB.out ((hA.below j6).more j6.size) HO.out HD6.out))).mono ?_
    rintro e V2 ⟨rfl,hc2⟩
    rw [HGD.out]
    have m1:=j1.call hc2
    have m2:=j2.call hc2
    have m3:=j3.call hc2
    have m5:=j5.call hc2
    have mq:=jq.call hc2
    have m6:=j6.trans (hc2.mono j6.size)
    have hc12:=hc1.trans (hc2.mono hc1.size)
    clear o0 o1 o2 o3 of oz d0 d1 d2 d3 df dz v0 vf vz c0 cf cz
    obtain ⟨o0,o1,o2,o3,of,oz⟩:=m1.four
    obtain ⟨d0,d1,d2,d3,df,dz⟩:=mq.barr
    obtain ⟨v0,vf,vz⟩:=m2.one
    obtain ⟨c0,cf,cz⟩:=m3.one
    gi_wp2_with fail
    exact ⟨trivial,KeepMid.below hc12 hbV,hsb _ hc12,m1,⟨_,_,m2,m3,by rw [HS.out]; exact i4.grown (row:=none) (grown_below hc12) (fun k e => by cases e)⟩,m5,m6⟩
  | some m =>
   obtain ⟨M0,hM⟩ : ∃ M0,cst o m bn = M0:=⟨_,rfl⟩
   have HM:=Lib.hid hM
   have i4':=i4
   obtain ⟨rfl,q0,Q0,rfl,_⟩:=i4'
   rw [hM] at i3 i4
   clear hM
   have hnil:=nil_no ⟨q0,0,none⟩ bn Q0
   by_cases hcm : C0 < M0
   ·have hcm' : decide (C0 < M0) = true:=decide_eq_true hcm
    have HLS : Hid (lesser o D (some m) = true):=by unfold Hid; show decide (cst o D o.bs.length < cst o m o.bs.length) = true; rw [HB.out,HC.out,HM.out]; exact hcm'
    by_cases hg : Good o D
    ·have HGD : Hid (decide (Good o D) = true):=Lib.hid (decide_eq_true hg)
     have HS : Hid (foldS o ((pre ++ [x]).map (·.1)) = some x.1):=by unfold Hid; rw [HR.out]; exact seek_in hbL HXD.out HLS.out hg
     clear hg
     gi_wp2_with fail
     refine ⟨trivial,?_⟩
     rw [← barr_def D]
     refine (CallsIn.inRound l (callsIn_wide.2 (weigh_any LA ln lc BA bn bc o D _ HL.out HB.out ((hA.below i6).more i6.size) HO.out HD6.out))).mono ?_
     rintro e V1 ⟨rfl,hc1⟩
     rw [HC.out,HKL.out]
     have j1:=i1.call hc1
     have j2:=i2.call hc1
     have j3:=i3.call hc1
     have j5:=i5.call hc1
     have jq:=hqD.call hc1
     have j6:=i6.trans (hc1.mono i6.size)
     clear o0 o1 o2 o3 of oz d0 d1 d2 d3 df dz
     obtain ⟨o0,o1,o2,o3,of,oz⟩:=j1.four
     obtain ⟨d0,d1,d2,d3,df,dz⟩:=jq.barr
     obtain ⟨v0,vf,vz⟩:=j2.one
     obtain ⟨c0,cf,cz⟩:=j3.one
     gi_wp2_with fail
     refine ⟨trivial,?_⟩
     rw [← barr_def D]
     refine (CallsIn.inRound l (callsIn_wide.2 (isGood_any LA ln lc BA bn bc o D _ HL.out HB.out ((hA.below j6).more j6.size) HO.out HD6.out))).mono ?_
     rintro e V2 ⟨rfl,hc2⟩
     rw [HGD.out]
     have m1:=j1.call hc2
     have m2:=j2.call hc2
     have m3:=j3.call hc2
     have m5:=j5.call hc2
     have mq:=jq.call hc2
     have m6:=j6.trans (hc2.mono j6.size)
     have hc12:=hc1.trans (hc2.mono hc1.size)
     clear o0 o1 o2 o3 of oz d0 d1 d2 d3 df dz v0 vf vz c0 cf cz
     obtain ⟨o0,o1,o2,o3,of,oz⟩:=m1.four
     obtain ⟨d0,d1,d2,d3,df,dz⟩:=mq.barr
     obtain ⟨v0,vf,vz⟩:=m2.one
     obtain ⟨c0,cf,cz⟩:=m3.one
     have hq4:=ivs_cells mq hbn4
     have hbni : (bn : Int) ≤ 4:=by omega
     gi_wp2_with fail
     refine ⟨trivial,?_⟩
     refine (CallsIn.inRound l (callsIn_wide.2 (clone_any ⟨q,0,none⟩ bn 4 (ivs bn D) _ (by omega) (ivs_len bn D) (ivs_one bn D) hq4))).mono ?_
     rintro e V3 ⟨⟨A',C',rfl,how⟩,hc3⟩
     obtain ⟨q',rfl⟩:=own_some how (by omega)
     have n1:=m1.call hc3
     have n2:=m2.call hc3
     have n3:=m3.call hc3
     have n5:=m5.call hc3
     have n6:=m6.trans (hc3.mono m6.size)
     have hc123:=hc12.trans (hc3.mono hc12.size)
     clear o0 o1 o2 o3 of oz d0 d1 d2 d3 df dz v0 vf vz c0 cf cz
     obtain ⟨v0,vf,vz⟩:=n2.one
     obtain ⟨c0,cf,cz⟩:=n3.one
     have hq':=(how.lt q' rfl).1
     have hz2:=hc12.size
     have hcv : CheapV o bn b V3 (.slice (some ⟨q',0,none⟩) bn C') (.int .i64 C0) (some x.1) :=
      ⟨by rw [cst_four hbn4 HXD.out,HC.out],q',C',rfl,by rw [ivs_congr hbn4 HXD.out]; exact ownsRow_up how (fun k e => by have:=(how.lt k e).1; omega)⟩
     have hcv2:=(hcv.grown (grown_set V3 (w.heap.size + 1) 0 (.slice (some ⟨q',0,none⟩) bn C')) (fun k e => by cases e; omega)).grown (grown_set _ (w.heap.size + 1 + 1) 0 (.int .i64 C0)) (fun k e => by cases e; omega)
     gi_wp2_with fail
     refine ⟨trivial,((KeepMid.below hc123 hbV).trans (KeepMid.set_ _ (by simp; omega) _)).trans (KeepMid.set_ _ (by simp; omega) _),?_,(n1.far (by simp) _).far (by simp; omega) _,⟨_,_,(n2.set_ 0 _).far (by simp) _,(n3.far (by simp) _).set_ 0 _,by rw [HS.out]; exact hcv2⟩,(n5.far (by simp; omega) _).far (by simp; omega) _,(n6.setCell (by simp) _).setCell (by simp; omega) _⟩
     exact (Below.heap_setCell _ _ _ _ (by simp; omega)).trans ((Below.heap_setCell _ _ _ _ (by simp; omega)).trans (hsb _ hc123))
    ·have HGD : Hid (decide (Good o D) = false):=Lib.hid (decide_eq_false hg)
     have HS : Hid (foldS o ((pre ++ [x]).map (·.1)) = some m):=by unfold Hid; rw [HR.out]; exact seek_out hbL HXD.out (fun h => hg h.2)
     clear hg
     gi_wp2_with fail
     refine ⟨trivial,?_⟩
     rw [← barr_def D]
     refine (CallsIn.inRound l (callsIn_wide.2 (weigh_any LA ln lc BA bn bc o D _ HL.out HB.out ((hA.below i6).more i6.size) HO.out HD6.out))).mono ?_
     rintro e V1 ⟨rfl,hc1⟩
     rw [HC.out,HKL.out]
     have j1:=i1.call hc1
     have j2:=i2.call hc1
     have j3:=i3.call hc1
     have j5:=i5.call hc1
     have jq:=hqD.call hc1
     have j6:=i6.trans (hc1.mono i6.size)
     clear o0 o1 o2 o3 of oz d0 d1 d2 d3 df dz
     obtain ⟨o0,o1,o2,o3,of,oz⟩:=j1.four
     obtain ⟨d0,d1,d2,d3,df,dz⟩:=jq.barr
     obtain ⟨v0,vf,vz⟩:=j2.one
     obtain ⟨c0,cf,cz⟩:=j3.one
     gi_wp2_with fail
     refine ⟨trivial,?_⟩
     rw [← barr_def D]
     refine (CallsIn.inRound l (callsIn_wide.2 (isGood_any LA ln lc BA bn bc o D _ HL.out HB.out ((hA.below j6).more j6.size) HO.out HD6.out))).mono ?_
     rintro e V2 ⟨rfl,hc2⟩
     rw [HGD.out]
     have m1:=j1.call hc2
     have m2:=j2.call hc2
     have m3:=j3.call hc2
     have m5:=j5.call hc2
     have mq:=jq.call hc2
     have m6:=j6.trans (hc2.mono j6.size)
     have hc12:=hc1.trans (hc2.mono hc1.size)
     clear o0 o1 o2 o3 of oz d0 d1 d2 d3 df dz v0 vf vz c0 cf cz
     obtain ⟨o0,o1,o2,o3,of,oz⟩:=m1.four
     obtain ⟨d0,d1,d2,d3,df,dz⟩:=mq.barr
     obtain ⟨v0,vf,vz⟩:=m2.one
     obtain ⟨c0,cf,cz⟩:=m3.one
     gi_wp2_with fail
     exact ⟨trivial,KeepMid.below hc12 hbV,hsb _ hc12,m1,⟨_,_,m2,m3,by rw [HS.out]; exact i4.grown (row:=none) (grown_below hc12) (fun k e => by cases e)⟩,m5,m6⟩
   ·have hcm' : decide (C0 < M0) = false:=decide_eq_false hcm
    have HS : Hid (foldS o ((pre ++ [x]).map (·.1)) = some m):=by
     unfold Hid
     rw [HR.out]
     refine seek_out hbL HXD.out (fun h => ?_)
     have h1 : decide (cst o D o.bs.length < cst o m o.bs.length) = true:=h.1
     rw [HB.out,HC.out,HM.out,hcm'] at h1
     cases h1
    gi_wp2_with fail
    refine ⟨trivial,?_⟩
    rw [← barr_def D]
    refine (CallsIn.inRound l (callsIn_wide.2 (weigh_any LA ln lc BA bn bc o D _ HL.out HB.out ((hA.below i6).more i6.size) HO.out HD6.out))).mono ?_
    rintro e V1 ⟨rfl,hc1⟩
    rw [HC.out,HKL.out]
    have j1:=i1.call hc1
    have j2:=i2.call hc1
    have j3:=i3.call hc1
    have j5:=i5.call hc1
    have jq:=hqD.call hc1
    have j6:=i6.trans (hc1.mono i6.size)
    clear o0 o1 o2 o3 of oz d0 d1 d2 d3 df dz
    obtain ⟨o0,o1,o2,o3,of,oz⟩:=j1.four
    obtain ⟨d0,d1,d2,d3,df,dz⟩:=jq.barr
    obtain ⟨v0,vf,vz⟩:=j2.one
    obtain ⟨c0,cf,cz⟩:=j3.one
    gi_wp2_with fail
    refine ⟨trivial,?_⟩
    gi_wp2_with fail
    exact ⟨trivial,KeepMid.below hc1 hbV,hsb _ hc1,j1,⟨_,_,j2,j3,by rw [HS.out]; exact i4.grown (row:=none) (grown_below hc1) (fun k e => by cases e)⟩,j5,j6⟩
 case done =>
  rintro D b xs V hwD hwb hbV ⟨hrk,hlen⟩ ⟨i1,⟨v,c,i2,i3,i4⟩,i5,i6⟩ hKD
  have hch:=foldS_sought (o:=o) HO.out.b2 xs.length xs rfl hrk
  rw [hlen] at hch
  have HCH : Hid (Cheap o (foldS o (xs.map (·.1)))):=hch
  generalize foldS o (xs.map (·.1)) = r at *
  have hD1 : w.heap.size + 1 ≠ D:=by omega
  have hD2 : w.heap.size + 1 + 1 ≠ D:=by omega
  have HKD:=Lib.hid hKD
  clear hch hrk hlen hKD
  obtain ⟨v0,vf,vz⟩:=i2.one
  obtain ⟨c0,cf,cz⟩:=i3.one
  cases r with
  | none =>
   obtain ⟨rfl,rfl⟩:=i4
   have hnil:=nil_yes
   go_wp2_with fail
   refine leavesM_marks (B:=w.heap.size) _ _ ⟨[D],rfl,by simp,fun D' hD' => ?_⟩ ?_
   ·obtain rfl : D' = D:=by simpa using hD'
    exact ⟨by omega,(Below.heap_setCell _ _ _ _ (Ne.symm hD2)).trans ((Below.heap_setCell _ _ _ _ (Ne.symm hD1)).trans HKD.out)⟩
   ·intro W' hb hk _
    have bz : Bx W' (w.heap.size + 1) 22 #[.slice none 0 0]:=(hk _ (by simp; omega)).trans ((i2.set_ 0 _).far (by simp) _)
    have by_ : Bx W' (w.heap.size + 1 + 1) 3 #[.int .i64 0]:=(hk _ (by simp; omega)).trans ((i3.far (by simp) _).set_ 0 _)
    obtain ⟨z0,zf,zz⟩:=bz.one
    obtain ⟨y0,yf,yz⟩:=by_.one
    refine ⟨.tuple #[.slice none 0 0,.int .i64 0,.int .i64 13],by simp [results,Try.results20,go_sem,z0,y0],⟨none,_,_,HCH.out,rfl,rfl,rfl⟩,?_⟩
    exact ((i6.setCell (p:=⟨w.heap.size + 1,0,none⟩) (by simp) _).setCell (p:=⟨w.heap.size + 1 + 1,0,none⟩) (by simp; omega) _).trans hb
  | some m =>
   obtain ⟨M0,hM⟩ : ∃ M0,cst o m bn = M0:=⟨_,rfl⟩
   have HM:=Lib.hid hM
   have i4':=i4
   obtain ⟨rfl,q0,Q0,rfl,how⟩:=i4'
   rw [hM] at i3 i4 c0
   clear hM
   have hq0:=(how.lt q0 rfl)
   have hnil:=nil_no ⟨q0,0,none⟩ bn Q0
   go_wp2_with fail
   refine wp_only ?_
   refine AnyG.startC (by kernel_rfl) ?_
   refine AnyG.enter (fun w' : World => Bx w' (w.heap.size + 1) 22 #[.slice (some ⟨q0,0,none⟩) bn Q0] ∧ Bx w' (w.heap.size + 1 + 1) 3 #[.int .i64 M0]) (fun i => true) ?_
   have hS : (fun w' : World => Bx w' (w.heap.size + 1) 22 #[.slice (some ⟨q0,0,none⟩) bn Q0] ∧ Bx w' (w.heap.size + 1 + 1) 3 #[.int .i64 M0]) (World.drew _):=⟨i2.drew,i3.drew⟩
   refine AnyG.takeC (i:=0) (v:=?_) rfl (by kernel_rfl) (fun _ _ _ h => h) rfl ?_ hS ?_
   rotate_left
   ·(intro w' hSw; (try dsimp only at hSw); obtain ⟨v0,vf,vz⟩:=hSw.1.one; obtain ⟨c0,cf,cz⟩:=hSw.2.one; go_simp; try with_reducible rfl)
   try simp only [Act.put,Sp1,Sp2,Sp3,Sp4,Sp5,Sp6]
   refine AnyG.takeC (i:=1) (v:=?_) rfl (by kernel_rfl) (fun _ _ _ h => h) rfl ?_ hS ?_
   rotate_left
   ·(intro w' hSw; (try dsimp only at hSw); obtain ⟨v0,vf,vz⟩:=hSw.1.one; obtain ⟨c0,cf,cz⟩:=hSw.2.one; go_simp; try with_reducible rfl)
   try simp only [Act.put,Sp1,Sp2,Sp3,Sp4,Sp5,Sp6]
   refine AnyG.one (i:=2) (by kernel_rfl) rfl rfl ?_
   obtain ⟨v0,vf,vz⟩:=hS.1.one
   go_simp
   refine Onward.on ⟨hS.1.set_ 0 _,hS.2.far (by simp) _⟩ (fun hS2 => ?_)
   clear hS
   have hS:=hS2
   clear hS2
   try simp only [Act.put,Sp1,Sp2,Sp3,Sp4,Sp5,Sp6]
   refine AnyG.one (i:=3) (by kernel_rfl) rfl rfl ?_
   obtain ⟨c0,cf,cz⟩:=hS.2.one
   go_simp
   refine Onward.on ⟨hS.1.far (by simp) _,hS.2.set_ 0 _⟩ (fun hS2 => ?_)
   clear hS
   have hS:=hS2
   clear hS2
   try simp only [Act.put,Sp1,Sp2,Sp3,Sp4,Sp5,Sp6]
   refine AnyG.takeC (i:=4) (v:=?_) rfl (by kernel_rfl) (fun _ _ _ h => h) rfl ?_ hS ?_
   rotate_left
   ·(intro w' hSw; (try dsimp only at hSw); go_simp; try with_reducible rfl)
   try simp only [Act.put,Sp1,Sp2,Sp3,Sp4,Sp5,Sp6]
   refine AnyG.done (by kernel_rfl) ?_ _
   refine onlyN_go ?_
   have hV5 : Below w.heap.size w (((V.setCell ⟨w.heap.size + 1,0,none⟩ (.slice (some ⟨q0,0,none⟩) bn Q0)).setCell ⟨w.heap.size + 1 + 1,0,none⟩ (.int .i64 M0)).drew):=((i6.setCell (p:=⟨w.heap.size + 1,0,none⟩) (by simp) _).setCell (p:=⟨w.heap.size + 1 + 1,0,none⟩) (by simp; omega) _).drew
   have hcv : CheapV o bn b (((V.setCell ⟨w.heap.size + 1,0,none⟩ (.slice (some ⟨q0,0,none⟩) bn Q0)).setCell ⟨w.heap.size + 1 + 1,0,none⟩ (.int .i64 M0)).drew) (.slice (some ⟨q0,0,none⟩) bn Q0) (.int .i64 M0) (some m):=((i4.grown (grown_set V (w.heap.size + 1) 0 _) (fun k e => by cases e; omega)).grown (grown_set _ (w.heap.size + 1 + 1) 0 _) (fun k e => by cases e; omega)).grown (row:=none) (grown_below (Below.refl _ _).drew) (fun k e => by cases e)
   go_simp
   go_wp2_with fail
   refine leavesM_marks (B:=w.heap.size) _ _ ⟨[D],rfl,by simp,fun D' hD' => ?_⟩ ?_
   ·obtain rfl : D' = D:=by simpa using hD'
    exact ⟨by omega,(Below.heap_setCell _ _ _ _ (Ne.symm hD2)).trans ((Below.heap_setCell _ _ _ _ (Ne.symm hD1)).trans HKD.out)⟩
   ·intro W' hb hk _
    have bz : Bx W' (w.heap.size + 1) 22 #[.slice (some ⟨q0,0,none⟩) bn Q0]:=(hk _ (by simp; omega)).trans hS.1
    have by_ : Bx W' (w.heap.size + 1 + 1) 3 #[.int .i64 M0]:=(hk _ (by simp; omega)).trans hS.2
    obtain ⟨z0,zf,zz⟩:=bz.one
    obtain ⟨y0,yf,yz⟩:=by_.one
    refine ⟨.tuple #[.slice (some ⟨q0,0,none⟩) bn Q0,.int .i64 M0,.int .i64 0],by simp [results,Try.results20,go_sem,z0,y0],⟨some m,_,_,HCH.out,rfl,?_⟩,hV5.trans hb⟩
    obtain ⟨e1,q1,Q1,e2,ho1⟩:=hcv
    have hqD : q1 ≠ D:=by
     rintro rfl
     rcases ho1.2 with ⟨h1,_⟩ | ⟨g,cap,cur,h1,_,h2,_⟩
     ·simp at h1
     ·simp only [Value.slice.injEq,Option.some.injEq,Addr.mk.injEq,and_true,true_and] at h1
      obtain ⟨rfl,rfl⟩:=h1
      have h3 : V.heap[q1]? = some (.deferred (some [])):=HKD.out
      have h4 : (((V.setCell ⟨w.heap.size + 1,0,none⟩ (.slice (some ⟨q0,0,none⟩) bn Q0)).setCell ⟨w.heap.size + 1 + 1,0,none⟩ (.int .i64 M0)).drew).heap[q1]? = V.heap[q1]?:=(Below.heap_setCell _ _ _ _ (Ne.symm hD2)).trans (Below.heap_setCell _ _ _ _ (Ne.symm hD1))
      rw [h4,h3] at h2
      cases h2
    have hgr : World.grownBy (((V.setCell ⟨w.heap.size + 1,0,none⟩ (.slice (some ⟨q0,0,none⟩) bn Q0)).setCell ⟨w.heap.size + 1 + 1,0,none⟩ (.int .i64 M0)).drew) W' (some D):=⟨hb.os,hb.tape,hb.output,hb.size,fun k _ hne => hk k (by simp; exact fun e => hne (by rw [e]))⟩
    refine ⟨e1,q1,Q1,e2,ownsRow_up (ho1.kept hgr (.inr (by simp [Value.ownBlock]; exact fun e => hqD (by omega)))) fun k e => ?_⟩
    have:=(ho1.lt k e).1
    omega
end Go.Proofs.Ytmemcopfeabcgaa
