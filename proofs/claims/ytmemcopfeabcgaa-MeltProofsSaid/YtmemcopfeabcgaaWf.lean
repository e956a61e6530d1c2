/- swarfref06.whole, first, second: boxes of the reference. -/
import Derived.Test.YtmemcopfeabcgaaPm
import Derived.Test.YtmemcopfeabcgaaBs
import Derived.Test.YtmemcopfeabcgaaAn
set_option linter.unusedSimpArgs false
set_option linter.unusedVariables false
namespace Go.Proofs.Ytmemcopfeabcgaa
open Go Go.RowKit
theorem inr_cell (L : List Int) : ∀ u ∈ (inr L).flatten,u.oneCell' = true:=by
 intro u hu
 obtain ⟨r,hr,hu⟩:=List.mem_flatten.1 hu
 unfold inr at hr
 obtain ⟨x,_,rfl⟩:=List.mem_map.1 hr
 simp at hu
 rw [hu]; rfl
theorem inr_flat_len (L : List Int) : (inr L).flatten.length = L.length * 1:=by rw [flat_len _ (inr_one L)]; simp [inr]
theorem sl_news {w : World} {B s : Nat} {A : Option Addr} {xs : List (List Value)} (h : Sl w B s A xs) (hs0 : 0 < s) (hs : ∀ r ∈ xs,r.length = s) : ∀ j u,xs.flatten[j]? = some u → ∃ ad,A = some ad ∧ w.cell? (ad.add j) = some u:=fun j u hu => by
 cases A with
 | none =>
  cases xs with
  | nil => simp at hu
  | cons r xs => obtain ⟨ad,e,_⟩:=h 0 r rfl; cases e
 | some a => exact ⟨a,rfl,h.cells hs0 hs j u hu⟩
set_option maxRecDepth 100000 in
set_option maxHeartbeats 8000000 in
theorem refFirst_any (SA TA : Option Addr) (bn sc tc : Nat) (Lo Hi : List Int) (m : Nat) (c : Int) (w : World) (hbn : bn ≤ 4) (hlo : Lo.length = bn) (hhi : Hi.length = bn) (hS : Sl w w.heap.size 1 SA (inr Lo)) (hT : Sl w w.heap.size 1 TA (inr Hi)) (hm : m < bn) (hc0 : 0 ≤ c) (hc6 : c ≤ 6) :
  Calls Try.prog 95 #[.agg #[.slice SA bn sc,.slice TA bn tc],.int .i64 m,.int .i64 c] w fun e w' => (∃ (A : Option Addr) (ac : Nat),e = .returned (.agg #[.slice SA bn sc,.slice A bn ac]) ∧ Sl w' w'.heap.size 1 A (inr (Hi.set m c))) ∧ Below w.heap.size w w':=by
 have k1:=(Bx.new w 119 #[.slice SA bn sc,.slice TA bn tc]).alloc (.cells #[.slice none 0 0,.slice none 0 0] 119)
 have k2:=Bx.at (w.alloc (.cells #[.slice SA bn sc,.slice TA bn tc] 119)) 119 #[.slice none 0 0,.slice none 0 0] (n:=w.heap.size + 1) (by simp)
 have B0:=((Below.refl w.heap.size w).alloc (Nat.le_refl _) (.cells #[.slice SA bn sc,.slice TA bn tc] 119)).alloc (by simp) (.cells #[.slice none 0 0,.slice none 0 0] 119)
 have hS1:=hS.call B0
 have hT1:=hT.call B0
 obtain ⟨V,hV⟩ : ∃ V,(w.alloc (.cells #[.slice SA bn sc,.slice TA bn tc] 119)).alloc (.cells #[.slice none 0 0,.slice none 0 0] 119) = V:=⟨_,rfl⟩
 rw [hV] at k1 k2 B0 hS1 hT1
 have HLO:=Lib.hid hlo
 have HHI:=Lib.hid hhi
 have HV:=Lib.hid hV
 have hwV : w.heap.size + 2 ≤ V.heap.size:=by rw [← hV]; simp
 clear hV hlo hhi hS hT
 obtain ⟨i3,hi3,hz3,hs3,iy3⟩:=info_parts info3'
 obtain ⟨b0,hb0⟩ : ∃ b,w.heap.size = b:=⟨_,rfl⟩
 rw [hb0] at k1 k2 hwV
 have HB0:=Lib.hid hb0
 clear hb0
 go_enter Try.func95,Try.ntmps95
 go_upto_region 1 with fail
 rw [HV.out,HB0.out]
 go_wp2_with fail
 refine AnyG.startC (by kernel_rfl) ?_
 refine AnyG.takeP (i:=0) (v:=?_) rfl (by kernel_rfl) (fun _ _ _ h => h) rfl ?_ ?_
 rotate_left
 ·(intro w'; go_simp; try with_reducible rfl)
 try simp only [Act.put,Sp1,Sp2,Sp3,Sp4,Sp5,Sp6]
 refine AnyG.takeP (i:=3) (v:=?_) rfl (by kernel_rfl) (fun _ _ _ h => h) rfl ?_ ?_
 rotate_left
 ·(intro w'; go_simp; try with_reducible rfl)
 try simp only [Act.put,Sp1,Sp2,Sp3,Sp4,Sp5,Sp6]
 refine AnyG.enter (fun w' : World => Below V.heap.size V w') (fun i => i != 8) ?_
 have hS : (fun w' : World => Below V.heap.size V w') (V.drew):=(Below.refl _ _).drew
 try dsimp only at hS
 obtain ⟨y0,hy0⟩ : ∃ y,V.drew = y:=⟨_,rfl⟩
 rw [hy0] at hS ⊢
 clear hy0
 refine AnyG.takeC (i:=1) (v:=?_) rfl (by kernel_rfl) (fun _ _ _ h => h) rfl ?_ hS ?_
 rotate_left
 ·(intro w' hSw; (try dsimp only at hSw); obtain ⟨x0,x1,xf,xz⟩:=(k1.call hSw).two; go_simp; try with_reducible rfl)
 try simp only [Act.put,Sp1,Sp2,Sp3,Sp4,Sp5,Sp6]
 refine AnyG.takeC (i:=4) (v:=?_) rfl (by kernel_rfl) (fun _ _ _ h => h) rfl ?_ hS ?_
 rotate_left
 ·(intro w' hSw; (try dsimp only at hSw); obtain ⟨x0,x1,xf,xz⟩:=(k1.call hSw).two; go_simp; try with_reducible rfl)
 try simp only [Act.put,Sp1,Sp2,Sp3,Sp4,Sp5,Sp6]
 refine AnyG.all (rs:=[2,7]) (by kernel_rfl) (by simp) ?_
 intro ii hii
 simp only [List.mem_cons,List.not_mem_nil,or_false] at hii
 rcases hii with rfl | rfl
 ·refine ⟨_,rfl,rfl,?_⟩
  go_simp
  have o10:=World.ownsRow_made (w:=y0) (base:=V.heap.size) (e:=3) (size:=1) #[] 0 hS.size (by unfold maxLen; omega) (by simp)
  have hN:=hS.alloc hS.size (.cells #[] 3)
  obtain ⟨z2,hy⟩ : ∃ x,y0.alloc (.cells #[] 3) = x:=⟨_,rfl⟩
  rw [hy] at o10 hN ⊢
  obtain ⟨b10,hbq⟩ : ∃ p,y0.heap.size = p:=⟨_,rfl⟩
  rw [hbq] at o10 ⊢
  clear hy hbq
  have hSn:=hN
  clear hS
  refine Onward.on hSn (fun hS => ?_)
  try dsimp only at hS
  clear hSn
  try simp only [Act.put,Sp1,Sp2,Sp3,Sp4,Sp5,Sp6]
  refine AnyG.all (rs:=[5,7]) (by kernel_rfl) (by simp) ?_
  intro ii hii
  simp only [List.mem_cons,List.not_mem_nil,or_false] at hii
  rcases hii with rfl | rfl
  ·refine ⟨_,rfl,rfl,?_⟩
   refine wp_app3 (.tmp 10) (.tmp 12) 22 rfl V.heap.size 3 i3 _ 1 8 Try.underlying22 hi3 hz3 hs3 iy3 rfl (by decide) (.slice (some ⟨b10,0,none⟩) 0 0) 0 [] (by simp [Act.eval]) o10 TA bn tc (inr Hi).flatten (by simp [Act.eval]) (by rw [inr_flat_len,HHI.out]) (sl_news (hT1.call hS) (by omega) (inr_one _)) (inr_cell _) (by unfold maxLen; omega) (by omega) hS.size ?_
   intro v13 z5 o13 g5 x5 r5
   rw [Nat.zero_add,List.nil_append] at o13
   obtain ⟨A13,c13,rfl⟩:=own_shape o13
   have hSn:=hS.grown g5 hS.size (fun q e => (o10.lt q e).1)
   clear hS
   refine Onward.on hSn (fun hS => ?_)
   try dsimp only at hS
   clear hSn
   try simp only [Act.put,Sp1,Sp2,Sp3,Sp4,Sp5,Sp6]
   refine AnyG.takeC (i:=6) (v:=?_) rfl (by kernel_rfl) (fun _ _ _ h => h) rfl ?_ hS ?_
   rotate_left
   ·(intro w' hSw; (try dsimp only at hSw); go_simp; try with_reducible rfl)
   try simp only [Act.put,Sp1,Sp2,Sp3,Sp4,Sp5,Sp6]
   refine AnyG.one (i:=7) (by kernel_rfl) rfl rfl ?_
   go_simp
   have k7:=Bx.new z5 119 #[.slice none 0 0,.slice none 0 0]
   have h7:=hS.size
   replace o13:=o13.alloc (.cells #[.slice none 0 0,.slice none 0 0] 119)
   have hN:=hS.alloc hS.size (.cells #[.slice none 0 0,.slice none 0 0] 119)
   obtain ⟨z7,hy⟩ : ∃ x,z5.alloc (.cells #[.slice none 0 0,.slice none 0 0] 119) = x:=⟨_,rfl⟩
   rw [hy] at o13 k7 hN ⊢
   obtain ⟨b7,hbq⟩ : ∃ p,z5.heap.size = p:=⟨_,rfl⟩
   rw [hbq] at k7 h7 ⊢
   clear hy hbq
   have hSn:=hN
   clear hS
   refine Onward.on hSn (fun hS => ?_)
   try dsimp only at hS
   clear hSn
   try simp only [Act.put,Sp1,Sp2,Sp3,Sp4,Sp5,Sp6]
   refine AnyG.one (i:=8) (by kernel_rfl) rfl rfl ?_
   obtain ⟨u0,u1,uf,uz⟩:=k7.two
   go_simp
   clear u0 u1 uf uz
   refine Onward.last rfl ?_
   try simp only [Act.put,Sp1,Sp2,Sp3,Sp4,Sp5,Sp6]
   refine AnyG.done (by kernel_rfl) ?_ _
   go_simp
   obtain ⟨q,rfl⟩:=own_some o13 (by omega)
   have k8:=(k7.set_ 0 (.slice SA bn sc)).set_ 1 (.slice (some ⟨q,0,none⟩) bn c13)
   have o8:=own_set (own_set o13 (own_bx o13 k7 (by decide)) (o:=0) (.slice SA bn sc)) (own_bx (own_set o13 (own_bx o13 k7 (by decide)) (o:=0) (.slice SA bn sc)) (k7.set_ 0 (.slice SA bn sc)) (by decide)) (o:=1) (.slice (some ⟨q,0,none⟩) bn c13)
   have B8:=(hS.setCell (p:=⟨b7,0,none⟩) h7 (.slice SA bn sc)).setCell (p:=⟨b7,1,none⟩) h7 (.slice (some ⟨q,0,none⟩) bn c13)
   have k82 : Bx ((z7.setCell ⟨b7,0,none⟩ (.slice SA bn sc)).setCell ⟨b7,1,none⟩ (.slice (some ⟨q,0,none⟩) bn c13)) b7 119 #[.slice SA bn sc,.slice (some ⟨q,0,none⟩) bn c13]:=by simpa using k8
   obtain ⟨U,hU⟩ : ∃ x,(z7.setCell ⟨b7,0,none⟩ (.slice SA bn sc)).setCell ⟨b7,1,none⟩ (.slice (some ⟨q,0,none⟩) bn c13) = x:=⟨_,rfl⟩
   rw [hU] at k82 o8 B8 ⊢
   clear hU k8 k7 o13
   have k1U:=k1.call B8
   have k2U:=k2.call B8
   have hqb : q ≠ b7:=fun e => own_bx o8 k82 (by decide) (by rw [e]; rfl)
   have hqV:=(o8.lt q rfl).1
   have hq1 : b0 + 1 ≠ q:=by omega
   have hb7 : b0 + 1 ≠ b7:=by omega
   have f8:=own_free o8
   obtain ⟨u0,u1,uf,uz⟩:=k82.two
   have p8:=own_num o8 HHI.out (by rw [HHI.out]; exact hm)
   go_upto_region 3 with fail
   clear p8 f8 u0 u1 uf uz
   have o9:=own_store o8 m (.int .i64 c) (by omega)
   rw [inr_set (by rw [HHI.out]; exact hm)] at o9
   have k9:=k82.far (p:=⟨q,m,none⟩) (Ne.symm hqb) (.int .i64 c)
   have kz:=k2U.far (p:=⟨q,m,none⟩) hq1 (.int .i64 c)
   have B9:=B8.setCell (p:=⟨q,m,none⟩) hqV (.int .i64 c)
   obtain ⟨X,hX⟩ : ∃ x,U.setCell ⟨q,m,none⟩ (.int .i64 c) = x:=⟨_,rfl⟩
   rw [hX] at o9 k9 kz B9 ⊢
   clear hX k82 o8 B8 k1U k2U
   obtain ⟨u0,u1,uf,uz⟩:=k9.two
   obtain ⟨t0,t1,tf,tz⟩:=kz.two
   go_wp2_with fail
   have s1:=kz.set_ 0 (.slice SA bn sc)
   have s2:=s1.set_ 1 (.slice (some ⟨q,0,none⟩) bn c13)
   have o9a:=own_set o9 (own_bx o9 kz (by decide)) (o:=0) (.slice SA bn sc)
   have o9b:=own_set o9a (own_bx o9a s1 (by decide)) (o:=1) (.slice (some ⟨q,0,none⟩) bn c13)
   have B10:=((B0.trans (B9.mono B0.size)).setCell (p:=⟨b0 + 1,0,none⟩) (by rw [HB0.out]; simp) (.slice SA bn sc)).setCell (p:=⟨b0 + 1,1,none⟩) (by rw [HB0.out]; simp) (.slice (some ⟨q,0,none⟩) bn c13)
   refine bodyPost_ret (v:=.agg #[.slice SA bn sc,.slice (some ⟨q,0,none⟩) bn c13]) (results_row1 (g:=b0 + 1) (t:=119) rfl rfl (by simpa using s2) Try.underlying119 rfl (by kernel_rfl)) rfl ⟨⟨_,_,rfl,own_inr o9b (by rw [List.length_set]; exact HHI.out)⟩,B10⟩
  ·refine ⟨_,rfl,rfl,?_⟩
   go_simp
   have k7:=Bx.new z2 119 #[.slice none 0 0,.slice none 0 0]
   have h7:=hS.size
   replace o10:=o10.alloc (.cells #[.slice none 0 0,.slice none 0 0] 119)
   have hN:=hS.alloc hS.size (.cells #[.slice none 0 0,.slice none 0 0] 119)
   obtain ⟨z7,hy⟩ : ∃ x,z2.alloc (.cells #[.slice none 0 0,.slice none 0 0] 119) = x:=⟨_,rfl⟩
   rw [hy] at o10 k7 hN ⊢
   obtain ⟨b7,hbq⟩ : ∃ p,z2.heap.size = p:=⟨_,rfl⟩
   rw [hbq] at k7 h7 ⊢
   clear hy hbq
   have hSn:=hN
   clear hS
   refine Onward.on hSn (fun hS => ?_)
   try dsimp only at hS
   clear hSn
   try simp only [Act.put,Sp1,Sp2,Sp3,Sp4,Sp5,Sp6]
   refine AnyG.one (i:=5) (by kernel_rfl) rfl rfl ?_
   refine wp_app3 (.tmp 10) (.tmp 12) 22 rfl V.heap.size 3 i3 _ 1 8 Try.underlying22 hi3 hz3 hs3 iy3 rfl (by decide) (.slice (some ⟨b10,0,none⟩) 0 0) 0 [] (by simp [Act.eval]) o10 TA bn tc (inr Hi).flatten (by simp [Act.eval]) (by rw [inr_flat_len,HHI.out]) (sl_news (hT1.call hS) (by omega) (inr_one _)) (inr_cell _) (by unfold maxLen; omega) (by omega) hS.size ?_
   intro v13 z5 o13 g5 x5 r5
   rw [Nat.zero_add,List.nil_append] at o13
   obtain ⟨A13,c13,rfl⟩:=own_shape o13
   replace k7:=k7.grown g5 (own_bx o10 k7 (by decide))
   have hSn:=hS.grown g5 hS.size (fun q e => (o10.lt q e).1)
   clear hS
   refine Onward.on hSn (fun hS => ?_)
   try dsimp only at hS
   clear hSn
   try simp only [Act.put,Sp1,Sp2,Sp3,Sp4,Sp5,Sp6]
   refine AnyG.takeC (i:=6) (v:=?_) rfl (by kernel_rfl) (fun _ _ _ h => h) rfl ?_ hS ?_
   rotate_left
   ·(intro w' hSw; (try dsimp only at hSw); go_simp; try with_reducible rfl)
   try simp only [Act.put,Sp1,Sp2,Sp3,Sp4,Sp5,Sp6]
   refine AnyG.one (i:=8) (by kernel_rfl) rfl rfl ?_
   obtain ⟨u0,u1,uf,uz⟩:=k7.two
   go_simp
   clear u0 u1 uf uz
   refine Onward.last rfl ?_
   try simp only [Act.put,Sp1,Sp2,Sp3,Sp4,Sp5,Sp6]
   refine AnyG.done (by kernel_rfl) ?_ _
   go_simp
   obtain ⟨q,rfl⟩:=own_some o13 (by omega)
   have k8:=(k7.set_ 0 (.slice SA bn sc)).set_ 1 (.slice (some ⟨q,0,none⟩) bn c13)
   have o8:=own_set (own_set o13 (own_bx o13 k7 (by decide)) (o:=0) (.slice SA bn sc)) (own_bx (own_set o13 (own_bx o13 k7 (by decide)) (o:=0) (.slice SA bn sc)) (k7.set_ 0 (.slice SA bn sc)) (by decide)) (o:=1) (.slice (some ⟨q,0,none⟩) bn c13)
   have B8:=(hS.setCell (p:=⟨b7,0,none⟩) h7 (.slice SA bn sc)).setCell (p:=⟨b7,1,none⟩) h7 (.slice (some ⟨q,0,none⟩) bn c13)
   have k82 : Bx ((z5.setCell ⟨b7,0,none⟩ (.slice SA bn sc)).setCell ⟨b7,1,none⟩ (.slice (some ⟨q,0,none⟩) bn c13)) b7 119 #[.slice SA bn sc,.slice (some ⟨q,0,none⟩) bn c13]:=by simpa using k8
   obtain ⟨U,hU⟩ : ∃ x,(z5.setCell ⟨b7,0,none⟩ (.slice SA bn sc)).setCell ⟨b7,1,none⟩ (.slice (some ⟨q,0,none⟩) bn c13) = x:=⟨_,rfl⟩
   rw [hU] at k82 o8 B8 ⊢
   clear hU k8 k7 o13
   have k1U:=k1.call B8
   have k2U:=k2.call B8
   have hqb : q ≠ b7:=fun e => own_bx o8 k82 (by decide) (by rw [e]; rfl)
   have hqV:=(o8.lt q rfl).1
   have hq1 : b0 + 1 ≠ q:=by omega
   have hb7 : b0 + 1 ≠ b7:=by omega
   have f8:=own_free o8
   obtain ⟨u0,u1,uf,uz⟩:=k82.two
   have p8:=own_num o8 HHI.out (by rw [HHI.out]; exact hm)
   go_upto_region 3 with fail
   clear p8 f8 u0 u1 uf uz
   have o9:=own_store o8 m (.int .i64 c) (by omega)
   rw [inr_set (by rw [HHI.out]; exact hm)] at o9
   have k9:=k82.far (p:=⟨q,m,none⟩) (Ne.symm hqb) (.int .i64 c)
   have kz:=k2U.far (p:=⟨q,m,none⟩) hq1 (.int .i64 c)
   have B9:=B8.setCell (p:=⟨q,m,none⟩) hqV (.int .i64 c)
   obtain ⟨X,hX⟩ : ∃ x,U.setCell ⟨q,m,none⟩ (.int .i64 c) = x:=⟨_,rfl⟩
   rw [hX] at o9 k9 kz B9 ⊢
   clear hX k82 o8 B8 k1U k2U
   obtain ⟨u0,u1,uf,uz⟩:=k9.two
   obtain ⟨t0,t1,tf,tz⟩:=kz.two
   go_wp2_with fail
   have s1:=kz.set_ 0 (.slice SA bn sc)
   have s2:=s1.set_ 1 (.slice (some ⟨q,0,none⟩) bn c13)
   have o9a:=own_set o9 (own_bx o9 kz (by decide)) (o:=0) (.slice SA bn sc)
   have o9b:=own_set o9a (own_bx o9a s1 (by decide)) (o:=1) (.slice (some ⟨q,0,none⟩) bn c13)
   have B10:=((B0.trans (B9.mono B0.size)).setCell (p:=⟨b0 + 1,0,none⟩) (by rw [HB0.out]; simp) (.slice SA bn sc)).setCell (p:=⟨b0 + 1,1,none⟩) (by rw [HB0.out]; simp) (.slice (some ⟨q,0,none⟩) bn c13)
   refine bodyPost_ret (v:=.agg #[.slice SA bn sc,.slice (some ⟨q,0,none⟩) bn c13]) (results_row1 (g:=b0 + 1) (t:=119) rfl rfl (by simpa using s2) Try.underlying119 rfl (by kernel_rfl)) rfl ⟨⟨_,_,rfl,own_inr o9b (by rw [List.length_set]; exact HHI.out)⟩,B10⟩
 ·refine ⟨_,rfl,rfl,?_⟩
  go_simp
  have k7:=Bx.new y0 119 #[.slice none 0 0,.slice none 0 0]
  have h7:=hS.size
  have hN:=hS.alloc hS.size (.cells #[.slice none 0 0,.slice none 0 0] 119)
  obtain ⟨z7,hy⟩ : ∃ x,y0.alloc (.cells #[.slice none 0 0,.slice none 0 0] 119) = x:=⟨_,rfl⟩
  rw [hy] at k7 hN ⊢
  obtain ⟨b7,hbq⟩ : ∃ p,y0.heap.size = p:=⟨_,rfl⟩
  rw [hbq] at k7 h7 ⊢
  clear hy hbq
  have hSn:=hN
  clear hS
  refine Onward.on hSn (fun hS => ?_)
  try dsimp only at hS
  clear hSn
  try simp only [Act.put,Sp1,Sp2,Sp3,Sp4,Sp5,Sp6]
  refine AnyG.one (i:=2) (by kernel_rfl) rfl rfl ?_
  go_simp
  have o10:=World.ownsRow_made (w:=z7) (base:=V.heap.size) (e:=3) (size:=1) #[] 0 hS.size (by unfold maxLen; omega) (by simp)
  replace k7:=k7.alloc (.cells #[] 3)
  have hN:=hS.alloc hS.size (.cells #[] 3)
  obtain ⟨z2,hy⟩ : ∃ x,z7.alloc (.cells #[] 3) = x:=⟨_,rfl⟩
  rw [hy] at o10 hN k7 ⊢
  obtain ⟨b10,hbq⟩ : ∃ p,z7.heap.size = p:=⟨_,rfl⟩
  rw [hbq] at o10 ⊢
  clear hy hbq
  have hSn:=hN
  clear hS
  refine Onward.on hSn (fun hS => ?_)
  try dsimp only at hS
  clear hSn
  try simp only [Act.put,Sp1,Sp2,Sp3,Sp4,Sp5,Sp6]
  refine AnyG.one (i:=5) (by kernel_rfl) rfl rfl ?_
  refine wp_app3 (.tmp 10) (.tmp 12) 22 rfl V.heap.size 3 i3 _ 1 8 Try.underlying22 hi3 hz3 hs3 iy3 rfl (by decide) (.slice (some ⟨b10,0,none⟩) 0 0) 0 [] (by simp [Act.eval]) o10 TA bn tc (inr Hi).flatten (by simp [Act.eval]) (by rw [inr_flat_len,HHI.out]) (sl_news (hT1.call hS) (by omega) (inr_one _)) (inr_cell _) (by unfold maxLen; omega) (by omega) hS.size ?_
  intro v13 z5 o13 g5 x5 r5
  rw [Nat.zero_add,List.nil_append] at o13
  obtain ⟨A13,c13,rfl⟩:=own_shape o13
  replace k7:=k7.grown g5 (own_bx o10 k7 (by decide))
  have hSn:=hS.grown g5 hS.size (fun q e => (o10.lt q e).1)
  clear hS
  refine Onward.on hSn (fun hS => ?_)
  try dsimp only at hS
  clear hSn
  try simp only [Act.put,Sp1,Sp2,Sp3,Sp4,Sp5,Sp6]
  refine AnyG.takeC (i:=6) (v:=?_) rfl (by kernel_rfl) (fun _ _ _ h => h) rfl ?_ hS ?_
  rotate_left
  ·(intro w' hSw; (try dsimp only at hSw); go_simp; try with_reducible rfl)
  try simp only [Act.put,Sp1,Sp2,Sp3,Sp4,Sp5,Sp6]
  refine AnyG.one (i:=8) (by kernel_rfl) rfl rfl ?_
  obtain ⟨u0,u1,uf,uz⟩:=k7.two
  go_simp
  clear u0 u1 uf uz
  refine Onward.last rfl ?_
  try simp only [Act.put,Sp1,Sp2,Sp3,Sp4,Sp5,Sp6]
  refine AnyG.done (by kernel_rfl) ?_ _
  go_simp
  obtain ⟨q,rfl⟩:=own_some o13 (by omega)
  have k8:=(k7.set_ 0 (.slice SA bn sc)).set_ 1 (.slice (some ⟨q,0,none⟩) bn c13)
  have o8:=own_set (own_set o13 (own_bx o13 k7 (by decide)) (o:=0) (.slice SA bn sc)) (own_bx (own_set o13 (own_bx o13 k7 (by decide)) (o:=0) (.slice SA bn sc)) (k7.set_ 0 (.slice SA bn sc)) (by decide)) (o:=1) (.slice (some ⟨q,0,none⟩) bn c13)
  have B8:=(hS.setCell (p:=⟨b7,0,none⟩) h7 (.slice SA bn sc)).setCell (p:=⟨b7,1,none⟩) h7 (.slice (some ⟨q,0,none⟩) bn c13)
  have k82 : Bx ((z5.setCell ⟨b7,0,none⟩ (.slice SA bn sc)).setCell ⟨b7,1,none⟩ (.slice (some ⟨q,0,none⟩) bn c13)) b7 119 #[.slice SA bn sc,.slice (some ⟨q,0,none⟩) bn c13]:=by simpa using k8
  obtain ⟨U,hU⟩ : ∃ x,(z5.setCell ⟨b7,0,none⟩ (.slice SA bn sc)).setCell ⟨b7,1,none⟩ (.slice (some ⟨q,0,none⟩) bn c13) = x:=⟨_,rfl⟩
  rw [hU] at k82 o8 B8 ⊢
  clear hU k8 k7 o13
  have k1U:=k1.call B8
  have k2U:=k2.call B8
  have hqb : q ≠ b7:=fun e => own_bx o8 k82 (by decide) (by rw [e]; rfl)
  have hqV:=(o8.lt q rfl).1
  have hq1 : b0 + 1 ≠ q:=by omega
  have hb7 : b0 + 1 ≠ b7:=by omega
  have f8:=own_free o8
  obtain ⟨u0,u1,uf,uz⟩:=k82.two
  have p8:=own_num o8 HHI.out (by rw [HHI.out]; exact hm)
  go_upto_region 3 with fail
  clear p8 f8 u0 u1 uf uz
  have o9:=own_store o8 m (.int .i64 c) (by omega)
  rw [inr_set (by rw [HHI.out]; exact hm)] at o9
  have k9:=k82.far (p:=⟨q,m,none⟩) (Ne.symm hqb) (.int .i64 c)
  have kz:=k2U.far (p:=⟨q,m,none⟩) hq1 (.int .i64 c)
  have B9:=B8.setCell (p:=⟨q,m,none⟩) hqV (.int .i64 c)
  obtain ⟨X,hX⟩ : ∃ x,U.setCell ⟨q,m,none⟩ (.int .i64 c) = x:=⟨_,rfl⟩
  rw [hX] at o9 k9 kz B9 ⊢
  clear hX k82 o8 B8 k1U k2U
  obtain ⟨u0,u1,uf,uz⟩:=k9.two
  obtain ⟨t0,t1,tf,tz⟩:=kz.two
  go_wp2_with fail
  have s1:=kz.set_ 0 (.slice SA bn sc)
  have s2:=s1.set_ 1 (.slice (some ⟨q,0,none⟩) bn c13)
  have o9a:=own_set o9 (own_bx o9 kz (by decide)) (o:=0) (.slice SA bn sc)
  have o9b:=own_set o9a (own_bx o9a s1 (by decide)) (o:=1) (.slice (some ⟨q,0,none⟩) bn c13)
  have B10:=((B0.trans (B9.mono B0.size)).setCell (p:=⟨b0 + 1,0,none⟩) (by rw [HB0.out]; simp) (.slice SA bn sc)).setCell (p:=⟨b0 + 1,1,none⟩) (by rw [HB0.out]; simp) (.slice (some ⟨q,0,none⟩) bn c13)
  refine bodyPost_ret (v:=.agg #[.slice SA bn sc,.slice (some ⟨q,0,none⟩) bn c13]) (results_row1 (g:=b0 + 1) (t:=119) rfl rfl (by simpa using s2) Try.underlying119 rfl (by kernel_rfl)) rfl ⟨⟨_,_,rfl,own_inr o9b (by rw [List.length_set]; exact HHI.out)⟩,B10⟩
set_option maxRecDepth 100000 in
set_option maxHeartbeats 8000000 in
theorem refSecond_any (SA TA : Option Addr) (bn sc tc : Nat) (Lo Hi : List Int) (m : Nat) (c : Int) (w : World) (hbn : bn ≤ 4) (hlo : Lo.length = bn) (hhi : Hi.length = bn) (hS : Sl w w.heap.size 1 SA (inr Lo)) (hT : Sl w w.heap.size 1 TA (inr Hi)) (hm : m < bn) (hc0 : 0 ≤ c) (hc6 : c ≤ 6) :
  Calls Try.prog 96 #[.agg #[.slice SA bn sc,.slice TA bn tc],.int .i64 m,.int .i64 c] w fun e w' => (∃ (A : Option Addr) (ac : Nat),e = .returned (.agg #[.slice A bn ac,.slice TA bn tc]) ∧ Sl w' w'.heap.size 1 A (inr (Lo.set m (c + 1)))) ∧ Below w.heap.size w w':=by
 have k1:=(Bx.new w 119 #[.slice SA bn sc,.slice TA bn tc]).alloc (.cells #[.slice none 0 0,.slice none 0 0] 119)
 have k2:=Bx.at (w.alloc (.cells #[.slice SA bn sc,.slice TA bn tc] 119)) 119 #[.slice none 0 0,.slice none 0 0] (n:=w.heap.size + 1) (by simp)
 have B0:=((Below.refl w.heap.size w).alloc (Nat.le_refl _) (.cells #[.slice SA bn sc,.slice TA bn tc] 119)).alloc (by simp) (.cells #[.slice none 0 0,.slice none 0 0] 119)
 have hS1:=hS.call B0
 have hT1:=hT.call B0
 obtain ⟨V,hV⟩ : ∃ V,(w.alloc (.cells #[.slice SA bn sc,.slice TA bn tc] 119)).alloc (.cells #[.slice none 0 0,.slice none 0 0] 119) = V:=⟨_,rfl⟩
 rw [hV] at k1 k2 B0 hS1 hT1
 have HLO:=Lib.hid hlo
 have HHI:=Lib.hid hhi
 have HV:=Lib.hid hV
 have hwV : w.heap.size + 2 ≤ V.heap.size:=by rw [← hV]; simp
 clear hV hlo hhi hS hT
 obtain ⟨i3,hi3,hz3,hs3,iy3⟩:=info_parts info3'
 obtain ⟨b0,hb0⟩ : ∃ b,w.heap.size = b:=⟨_,rfl⟩
 rw [hb0] at k1 k2 hwV
 have HB0:=Lib.hid hb0
 clear hb0
 go_enter Try.func96,Try.ntmps96
 go_upto_region 1 with fail
 rw [HV.out,HB0.out]
 go_wp2_with fail
 refine AnyG.startC (by kernel_rfl) ?_
 refine AnyG.takeP (i:=1) (v:=?_) rfl (by kernel_rfl) (fun _ _ _ h => h) rfl ?_ ?_
 rotate_left
 ·(intro w'; go_simp; try with_reducible rfl)
 try simp only [Act.put,Sp1,Sp2,Sp3,Sp4,Sp5,Sp6]
 refine AnyG.takeP (i:=4) (v:=?_) rfl (by kernel_rfl) (fun _ _ _ h => h) rfl ?_ ?_
 rotate_left
 ·(intro w'; go_simp; try with_reducible rfl)
 try simp only [Act.put,Sp1,Sp2,Sp3,Sp4,Sp5,Sp6]
 refine AnyG.enter (fun w' : World => Below V.heap.size V w') (fun i => i != 8) ?_
 have hS : (fun w' : World => Below V.heap.size V w') (V.drew):=(Below.refl _ _).drew
 try dsimp only at hS
 obtain ⟨y0,hy0⟩ : ∃ y,V.drew = y:=⟨_,rfl⟩
 rw [hy0] at hS ⊢
 clear hy0
 refine AnyG.takeC (i:=2) (v:=?_) rfl (by kernel_rfl) (fun _ _ _ h => h) rfl ?_ hS ?_
 rotate_left
 ·(intro w' hSw; (try dsimp only at hSw); obtain ⟨x0,x1,xf,xz⟩:=(k1.call hSw).two; go_simp; try with_reducible rfl)
 try simp only [Act.put,Sp1,Sp2,Sp3,Sp4,Sp5,Sp6]
 refine AnyG.takeC (i:=5) (v:=?_) rfl (by kernel_rfl) (fun _ _ _ h => h) rfl ?_ hS ?_
 rotate_left
 ·(intro w' hSw; (try dsimp only at hSw); obtain ⟨x0,x1,xf,xz⟩:=(k1.call hSw).two; go_simp; try with_reducible rfl)
 try simp only [Act.put,Sp1,Sp2,Sp3,Sp4,Sp5,Sp6]
 refine AnyG.all (rs:=[0,7]) (by kernel_rfl) (by simp) ?_
 intro ii hii
 simp only [List.mem_cons,List.not_mem_nil,or_false] at hii
 rcases hii with rfl | rfl
 ·refine ⟨_,rfl,rfl,?_⟩
  go_simp
  have o10:=World.ownsRow_made (w:=y0) (base:=V.heap.size) (e:=3) (size:=1) #[] 0 hS.size (by unfold maxLen; omega) (by simp)
  have hN:=hS.alloc hS.size (.cells #[] 3)
  obtain ⟨z2,hy⟩ : ∃ x,y0.alloc (.cells #[] 3) = x:=⟨_,rfl⟩
  rw [hy] at o10 hN ⊢
  obtain ⟨b10,hbq⟩ : ∃ p,y0.heap.size = p:=⟨_,rfl⟩
  rw [hbq] at o10 ⊢
  clear hy hbq
  have hSn:=hN
  clear hS
  refine Onward.on hSn (fun hS => ?_)
  try dsimp only at hS
  clear hSn
  try simp only [Act.put,Sp1,Sp2,Sp3,Sp4,Sp5,Sp6]
  refine AnyG.all (rs:=[3,7]) (by kernel_rfl) (by simp) ?_
  intro ii hii
  simp only [List.mem_cons,List.not_mem_nil,or_false] at hii
  rcases hii with rfl | rfl
  ·refine ⟨_,rfl,rfl,?_⟩
   refine wp_app3 (.tmp 8) (.tmp 10) 22 rfl V.heap.size 3 i3 _ 1 8 Try.underlying22 hi3 hz3 hs3 iy3 rfl (by decide) (.slice (some ⟨b10,0,none⟩) 0 0) 0 [] (by simp [Act.eval]) o10 SA bn sc (inr Lo).flatten (by simp [Act.eval]) (by rw [inr_flat_len,HLO.out]) (sl_news (hS1.call hS) (by omega) (inr_one _)) (inr_cell _) (by unfold maxLen; omega) (by omega) hS.size ?_
   intro v13 z5 o13 g5 x5 r5
   rw [Nat.zero_add,List.nil_append] at o13
   obtain ⟨A13,c13,rfl⟩:=own_shape o13
   have hSn:=hS.grown g5 hS.size (fun q e => (o10.lt q e).1)
   clear hS
   refine Onward.on hSn (fun hS => ?_)
   try dsimp only at hS
   clear hSn
   try simp only [Act.put,Sp1,Sp2,Sp3,Sp4,Sp5,Sp6]
   refine AnyG.takeC (i:=6) (v:=?_) rfl (by kernel_rfl) (fun _ _ _ h => h) rfl ?_ hS ?_
   rotate_left
   ·(intro w' hSw; (try dsimp only at hSw); go_simp; try with_reducible rfl)
   try simp only [Act.put,Sp1,Sp2,Sp3,Sp4,Sp5,Sp6]
   refine AnyG.one (i:=7) (by kernel_rfl) rfl rfl ?_
   go_simp
   have k7:=Bx.new z5 119 #[.slice none 0 0,.slice none 0 0]
   have h7:=hS.size
   replace o13:=o13.alloc (.cells #[.slice none 0 0,.slice none 0 0] 119)
   have hN:=hS.alloc hS.size (.cells #[.slice none 0 0,.slice none 0 0] 119)
   obtain ⟨z7,hy⟩ : ∃ x,z5.alloc (.cells #[.slice none 0 0,.slice none 0 0] 119) = x:=⟨_,rfl⟩
   rw [hy] at o13 k7 hN ⊢
   obtain ⟨b7,hbq⟩ : ∃ p,z5.heap.size = p:=⟨_,rfl⟩
   rw [hbq] at k7 h7 ⊢
   clear hy hbq
   have hSn:=hN
   clear hS
   refine Onward.on hSn (fun hS => ?_)
   try dsimp only at hS
   clear hSn
   try simp only [Act.put,Sp1,Sp2,Sp3,Sp4,Sp5,Sp6]
   refine AnyG.one (i:=8) (by kernel_rfl) rfl rfl ?_
   obtain ⟨u0,u1,uf,uz⟩:=k7.two
   go_simp
   clear u0 u1 uf uz
   refine Onward.last rfl ?_
   try simp only [Act.put,Sp1,Sp2,Sp3,Sp4,Sp5,Sp6]
   refine AnyG.done (by kernel_rfl) ?_ _
   go_simp
   obtain ⟨q,rfl⟩:=own_some o13 (by omega)
   have k8:=(k7.set_ 0 (.slice (some ⟨q,0,none⟩) bn c13)).set_ 1 (.slice TA bn tc)
   have o8:=own_set (own_set o13 (own_bx o13 k7 (by decide)) (o:=0) (.slice (some ⟨q,0,none⟩) bn c13)) (own_bx (own_set o13 (own_bx o13 k7 (by decide)) (o:=0) (.slice (some ⟨q,0,none⟩) bn c13)) (k7.set_ 0 (.slice (some ⟨q,0,none⟩) bn c13)) (by decide)) (o:=1) (.slice TA bn tc)
   have B8:=(hS.setCell (p:=⟨b7,0,none⟩) h7 (.slice (some ⟨q,0,none⟩) bn c13)).setCell (p:=⟨b7,1,none⟩) h7 (.slice TA bn tc)
   have k82 : Bx ((z7.setCell ⟨b7,0,none⟩ (.slice (some ⟨q,0,none⟩) bn c13)).setCell ⟨b7,1,none⟩ (.slice TA bn tc)) b7 119 #[.slice (some ⟨q,0,none⟩) bn c13,.slice TA bn tc]:=by simpa using k8
   obtain ⟨U,hU⟩ : ∃ x,(z7.setCell ⟨b7,0,none⟩ (.slice (some ⟨q,0,none⟩) bn c13)).setCell ⟨b7,1,none⟩ (.slice TA bn tc) = x:=⟨_,rfl⟩
   rw [hU] at k82 o8 B8 ⊢
   clear hU k8 k7 o13
   have k1U:=k1.call B8
   have k2U:=k2.call B8
   have hqb : q ≠ b7:=fun e => own_bx o8 k82 (by decide) (by rw [e]; rfl)
   have hqV:=(o8.lt q rfl).1
   have hq1 : b0 + 1 ≠ q:=by omega
   have hb7 : b0 + 1 ≠ b7:=by omega
   have f8:=own_free o8
   obtain ⟨u0,u1,uf,uz⟩:=k82.two
   have hcw : IntKind.i64.wrap (c + 1) = c + 1:=IntWalk.i64_in _ (by omega)
   have p8:=own_num o8 HLO.out (by rw [HLO.out]; exact hm)
   go_upto_region 3 with fail
   clear p8 f8 u0 u1 uf uz
   have o9:=own_store o8 m (.int .i64 (c + 1)) (by omega)
   rw [inr_set (by rw [HLO.out]; exact hm)] at o9
   have k9:=k82.far (p:=⟨q,m,none⟩) (Ne.symm hqb) (.int .i64 (c + 1))
   have kz:=k2U.far (p:=⟨q,m,none⟩) hq1 (.int .i64 (c + 1))
   have B9:=B8.setCell (p:=⟨q,m,none⟩) hqV (.int .i64 (c + 1))
   obtain ⟨X,hX⟩ : ∃ x,U.setCell ⟨q,m,none⟩ (.int .i64 (c + 1)) = x:=⟨_,rfl⟩
   rw [hX] at o9 k9 kz B9 ⊢
   clear hX k82 o8 B8 k1U k2U
   obtain ⟨u0,u1,uf,uz⟩:=k9.two
   obtain ⟨t0,t1,tf,tz⟩:=kz.two
   go_wp2_with fail
   have s1:=kz.set_ 0 (.slice (some ⟨q,0,none⟩) bn c13)
   have s2:=s1.set_ 1 (.slice TA bn tc)
   have o9a:=own_set o9 (own_bx o9 kz (by decide)) (o:=0) (.slice (some ⟨q,0,none⟩) bn c13)
   have o9b:=own_set o9a (own_bx o9a s1 (by decide)) (o:=1) (.slice TA bn tc)
   have B10:=((B0.trans (B9.mono B0.size)).setCell (p:=⟨b0 + 1,0,none⟩) (by rw [HB0.out]; simp) (.slice (some ⟨q,0,none⟩) bn c13)).setCell (p:=⟨b0 + 1,1,none⟩) (by rw [HB0.out]; simp) (.slice TA bn tc)
   refine bodyPost_ret (v:=.agg #[.slice (some ⟨q,0,none⟩) bn c13,.slice TA bn tc]) (results_row1 (g:=b0 + 1) (t:=119) rfl rfl (by simpa using s2) Try.underlying119 rfl (by kernel_rfl)) rfl ⟨⟨_,_,rfl,own_inr o9b (by rw [List.length_set]; exact HLO.out)⟩,B10⟩
  ·refine ⟨_,rfl,rfl,?_⟩
   go_simp
   have k7:=Bx.new z2 119 #[.slice none 0 0,.slice none 0 0]
   have h7:=hS.size
   replace o10:=o10.alloc (.cells #[.slice none 0 0,.slice none 0 0] 119)
   have hN:=hS.alloc hS.size (.cells #[.slice none 0 0,.slice none 0 0] 119)
   obtain ⟨z7,hy⟩ : ∃ x,z2.alloc (.cells #[.slice none 0 0,.slice none 0 0] 119) = x:=⟨_,rfl⟩
   rw [hy] at o10 k7 hN ⊢
   obtain ⟨b7,hbq⟩ : ∃ p,z2.heap.size = p:=⟨_,rfl⟩
   rw [hbq] at k7 h7 ⊢
   clear hy hbq
   have hSn:=hN
   clear hS
   refine Onward.on hSn (fun hS => ?_)
   try dsimp only at hS
   clear hSn
   try simp only [Act.put,Sp1,Sp2,Sp3,Sp4,Sp5,Sp6]
   refine AnyG.one (i:=3) (by kernel_rfl) rfl rfl ?_
   refine wp_app3 (.tmp 8) (.tmp 10) 22 rfl V.heap.size 3 i3 _ 1 8 Try.underlying22 hi3 hz3 hs3 iy3 rfl (by decide) (.slice (some ⟨b10,0,none⟩) 0 0) 0 [] (by simp [Act.eval]) o10 SA bn sc (inr Lo).flatten (by simp [Act.eval]) (by rw [inr_flat_len,HLO.out]) (sl_news (hS1.call hS) (by omega) (inr_one _)) (inr_cell _) (by unfold maxLen; omega) (by omega) hS.size ?_
   intro v13 z5 o13 g5 x5 r5
   rw [Nat.zero_add,List.nil_append] at o13
   obtain ⟨A13,c13,rfl⟩:=own_shape o13
   replace k7:=k7.grown g5 (own_bx o10 k7 (by decide))
   have hSn:=hS.grown g5 hS.size (fun q e => (o10.lt q e).1)
   clear hS
   refine Onward.on hSn (fun hS => ?_)
   try dsimp only at hS
   clear hSn
   try simp only [Act.put,Sp1,Sp2,Sp3,Sp4,Sp5,Sp6]
   refine AnyG.takeC (i:=6) (v:=?_) rfl (by kernel_rfl) (fun _ _ _ h => h) rfl ?_ hS ?_
   rotate_left
   ·(intro w' hSw; (try dsimp only at hSw); go_simp; try with_reducible rfl)
   try simp only [Act.put,Sp1,Sp2,Sp3,Sp4,Sp5,Sp6]
   refine AnyG.one (i:=8) (by kernel_rfl) rfl rfl ?_
   obtain ⟨u0,u1,uf,uz⟩:=k7.two
   go_simp
   clear u0 u1 uf uz
   refine Onward.last rfl ?_
   try simp only [Act.put,Sp1,Sp2,Sp3,Sp4,Sp5,Sp6]
   refine AnyG.done (by kernel_rfl) ?_ _
   go_simp
   obtain ⟨q,rfl⟩:=own_some o13 (by omega)
   have k8:=(k7.set_ 0 (.slice (some ⟨q,0,none⟩) bn c13)).set_ 1 (.slice TA bn tc)
   have o8:=own_set (own_set o13 (own_bx o13 k7 (by decide)) (o:=0) (.slice (some ⟨q,0,none⟩) bn c13)) (own_bx (own_set o13 (own_bx o13 k7 (by decide)) (o:=0) (.slice (some ⟨q,0,none⟩) bn c13)) (k7.set_ 0 (.slice (some ⟨q,0,none⟩) bn c13)) (by decide)) (o:=1) (.slice TA bn tc)
   have B8:=(hS.setCell (p:=⟨b7,0,none⟩) h7 (.slice (some ⟨q,0,none⟩) bn c13)).setCell (p:=⟨b7,1,none⟩) h7 (.slice TA bn tc)
   have k82 : Bx ((z5.setCell ⟨b7,0,none⟩ (.slice (some ⟨q,0,none⟩) bn c13)).setCell ⟨b7,1,none⟩ (.slice TA bn tc)) b7 119 #[.slice (some ⟨q,0,none⟩) bn c13,.slice TA bn tc]:=by simpa using k8
   obtain ⟨U,hU⟩ : ∃ x,(z5.setCell ⟨b7,0,none⟩ (.slice (some ⟨q,0,none⟩) bn c13)).setCell ⟨b7,1,none⟩ (.slice TA bn tc) = x:=⟨_,rfl⟩
   rw [hU] at k82 o8 B8 ⊢
   clear hU k8 k7 o13
   have k1U:=k1.call B8
   have k2U:=k2.call B8
   have hqb : q ≠ b7:=fun e => own_bx o8 k82 (by decide) (by rw [e]; rfl)
   have hqV:=(o8.lt q rfl).1
   have hq1 : b0 + 1 ≠ q:=by omega
   have hb7 : b0 + 1 ≠ b7:=by omega
   have f8:=own_free o8
   obtain ⟨u0,u1,uf,uz⟩:=k82.two
   have hcw : IntKind.i64.wrap (c + 1) = c + 1:=IntWalk.i64_in _ (by omega)
   have p8:=own_num o8 HLO.out (by rw [HLO.out]; exact hm)
   go_upto_region 3 with fail
   clear p8 f8 u0 u1 uf uz
   have o9:=own_store o8 m (.int .i64 (c + 1)) (by omega)
   rw [inr_set (by rw [HLO.out]; exact hm)] at o9
   have k9:=k82.far (p:=⟨q,m,none⟩) (Ne.symm hqb) (.int .i64 (c + 1))
   have kz:=k2U.far (p:=⟨q,m,none⟩) hq1 (.int .i64 (c + 1))
   have B9:=B8.setCell (p:=⟨q,m,none⟩) hqV (.int .i64 (c + 1))
   obtain ⟨X,hX⟩ : ∃ x,U.setCell ⟨q,m,none⟩ (.int .i64 (c + 1)) = x:=⟨_,rfl⟩
   rw [hX] at o9 k9 kz B9 ⊢
   clear hX k82 o8 B8 k1U k2U
   obtain ⟨u0,u1,uf,uz⟩:=k9.two
   obtain ⟨t0,t1,tf,tz⟩:=kz.two
   go_wp2_with fail
   have s1:=kz.set_ 0 (.slice (some ⟨q,0,none⟩) bn c13)
   have s2:=s1.set_ 1 (.slice TA bn tc)
   have o9a:=own_set o9 (own_bx o9 kz (by decide)) (o:=0) (.slice (some ⟨q,0,none⟩) bn c13)
   have o9b:=own_set o9a (own_bx o9a s1 (by decide)) (o:=1) (.slice TA bn tc)
   have B10:=((B0.trans (B9.mono B0.size)).setCell (p:=⟨b0 + 1,0,none⟩) (by rw [HB0.out]; simp) (.slice (some ⟨q,0,none⟩) bn c13)).setCell (p:=⟨b0 + 1,1,none⟩) (by rw [HB0.out]; simp) (.slice TA bn tc)
   refine bodyPost_ret (v:=.agg #[.slice (some ⟨q,0,none⟩) bn c13,.slice TA bn tc]) (results_row1 (g:=b0 + 1) (t:=119) rfl rfl (by simpa using s2) Try.underlying119 rfl (by kernel_rfl)) rfl ⟨⟨_,_,rfl,own_inr o9b (by rw [List.length_set]; exact HLO.out)⟩,B10⟩
 ·refine ⟨_,rfl,rfl,?_⟩
  go_simp
  have k7:=Bx.new y0 119 #[.slice none 0 0,.slice none 0 0]
  have h7:=hS.size
  have hN:=hS.alloc hS.size (.cells #[.slice none 0 0,.slice none 0 0] 119)
  obtain ⟨z7,hy⟩ : ∃ x,y0.alloc (.cells #[.slice none 0 0,.slice none 0 0] 119) = x:=⟨_,rfl⟩
  rw [hy] at k7 hN ⊢
  obtain ⟨b7,hbq⟩ : ∃ p,y0.heap.size = p:=⟨_,rfl⟩
  rw [hbq] at k7 h7 ⊢
  clear hy hbq
  have hSn:=hN
  clear hS
  refine Onward.on hSn (fun hS => ?_)
  try dsimp only at hS
  clear hSn
  try simp only [Act.put,Sp1,Sp2,Sp3,Sp4,Sp5,Sp6]
  refine AnyG.one (i:=0) (by kernel_rfl) rfl rfl ?_
  go_simp
  have o10:=World.ownsRow_made (w:=z7) (base:=V.heap.size) (e:=3) (size:=1) #[] 0 hS.size (by unfold maxLen; omega) (by simp)
  replace k7:=k7.alloc (.cells #[] 3)
  have hN:=hS.alloc hS.size (.cells #[] 3)
  obtain ⟨z2,hy⟩ : ∃ x,z7.alloc (.cells #[] 3) = x:=⟨_,rfl⟩
  rw [hy] at o10 hN k7 ⊢
  obtain ⟨b10,hbq⟩ : ∃ p,z7.heap.size = p:=⟨_,rfl⟩
  rw [hbq] at o10 ⊢
  clear hy hbq
  have hSn:=hN
  clear hS
  refine Onward.on hSn (fun hS => ?_)
  try dsimp only at hS
  clear hSn
  try simp only [Act.put,Sp1,Sp2,Sp3,Sp4,Sp5,Sp6]
  refine AnyG.one (i:=3) (by kernel_rfl) rfl rfl ?_
  refine wp_app3 (.tmp 8) (.tmp 10) 22 rfl V.heap.size 3 i3 _ 1 8 Try.underlying22 hi3 hz3 hs3 iy3 rfl (by decide) (.slice (some ⟨b10,0,none⟩) 0 0) 0 [] (by simp [Act.eval]) o10 SA bn sc (inr Lo).flatten (by simp [Act.eval]) (by rw [inr_flat_len,HLO.out]) (sl_news (hS1.call hS) (by omega) (inr_one _)) (inr_cell _) (by unfold maxLen; omega) (by omega) hS.size ?_
  intro v13 z5 o13 g5 x5 r5
  rw [Nat.zero_add,List.nil_append] at o13
  obtain ⟨A13,c13,rfl⟩:=own_shape o13
  replace k7:=k7.grown g5 (own_bx o10 k7 (by decide))
  have hSn:=hS.grown g5 hS.size (fun q e => (o10.lt q e).1)
  clear hS
  refine Onward.on hSn (fun hS => ?_)
  try dsimp only at hS
  clear hSn
  try simp only [Act.put,Sp1,Sp2,Sp3,Sp4,Sp5,Sp6]
  refine AnyG.takeC (i:=6) (v:=?_) rfl (by kernel_rfl) (fun _ _ _ h => h) rfl ?_ hS ?_
  rotate_left
  ·(intro w' hSw; (try dsimp only at hSw); go_simp; try with_reducible rfl)
  try simp only [Act.put,Sp1,Sp2,Sp3,Sp4,Sp5,Sp6]
  refine AnyG.one (i:=8) (by kernel_rfl) rfl rfl ?_
  obtain ⟨u0,u1,uf,uz⟩:=k7.two
  go_simp
  clear u0 u1 uf uz
  refine Onward.last rfl ?_
  try simp only [Act.put,Sp1,Sp2,Sp3,Sp4,Sp5,Sp6]
  refine AnyG.done (by kernel_rfl) ?_ _
  go_simp
  obtain ⟨q,rfl⟩:=own_some o13 (by omega)
  have k8:=(k7.set_ 0 (.slice (some ⟨q,0,none⟩) bn c13)).set_ 1 (.slice TA bn tc)
  have o8:=own_set (own_set o13 (own_bx o13 k7 (by decide)) (o:=0) (.slice (some ⟨q,0,none⟩) bn c13)) (own_bx (own_set o13 (own_bx o13 k7 (by decide)) (o:=0) (.slice (some ⟨q,0,none⟩) bn c13)) (k7.set_ 0 (.slice (some ⟨q,0,none⟩) bn c13)) (by decide)) (o:=1) (.slice TA bn tc)
  have B8:=(hS.setCell (p:=⟨b7,0,none⟩) h7 (.slice (some ⟨q,0,none⟩) bn c13)).setCell (p:=⟨b7,1,none⟩) h7 (.slice TA bn tc)
  have k82 : Bx ((z5.setCell ⟨b7,0,none⟩ (.slice (some ⟨q,0,none⟩) bn c13)).setCell ⟨b7,1,none⟩ (.slice TA bn tc)) b7 119 #[.slice (some ⟨q,0,none⟩) bn c13,.slice TA bn tc]:=by simpa using k8
  obtain ⟨U,hU⟩ : ∃ x,(z5.setCell ⟨b7,0,none⟩ (.slice (some ⟨q,0,none⟩) bn c13)).setCell ⟨b7,1,none⟩ (.slice TA bn tc) = x:=⟨_,rfl⟩
  rw [hU] at k82 o8 B8 ⊢
  clear hU k8 k7 o13
  have k1U:=k1.call B8
  have k2U:=k2.call B8
  have hqb : q ≠ b7:=fun e => own_bx o8 k82 (by decide) (by rw [e]; rfl)
  have hqV:=(o8.lt q rfl).1
  have hq1 : b0 + 1 ≠ q:=by omega
  have hb7 : b0 + 1 ≠ b7:=by omega
  have f8:=own_free o8
  obtain ⟨u0,u1,uf,uz⟩:=k82.two
  have hcw : IntKind.i64.wrap (c + 1) = c + 1:=IntWalk.i64_in _ (by omega)
  have p8:=own_num o8 HLO.out (by rw [HLO.out]; exact hm)
  go_upto_region 3 with fail
  clear p8 f8 u0 u1 uf uz
  have o9:=own_store o8 m (.int .i64 (c + 1)) (by omega)
  rw [inr_set (by rw [HLO.out]; exact hm)] at o9
  have k9:=k82.far (p:=⟨q,m,none⟩) (Ne.symm hqb) (.int .i64 (c + 1))
  have kz:=k2U.far (p:=⟨q,m,none⟩) hq1 (.int .i64 (c + 1))
  have B9:=B8.setCell (p:=⟨q,m,none⟩) hqV (.int .i64 (c + 1))
  obtain ⟨X,hX⟩ : ∃ x,U.setCell ⟨q,m,none⟩ (.int .i64 (c + 1)) = x:=⟨_,rfl⟩
  rw [hX] at o9 k9 kz B9 ⊢
  clear hX k82 o8 B8 k1U k2U
  obtain ⟨u0,u1,uf,uz⟩:=k9.two
  obtain ⟨t0,t1,tf,tz⟩:=kz.two
  go_wp2_with fail
  have s1:=kz.set_ 0 (.slice (some ⟨q,0,none⟩) bn c13)
  have s2:=s1.set_ 1 (.slice TA bn tc)
  have o9a:=own_set o9 (own_bx o9 kz (by decide)) (o:=0) (.slice (some ⟨q,0,none⟩) bn c13)
  have o9b:=own_set o9a (own_bx o9a s1 (by decide)) (o:=1) (.slice TA bn tc)
  have B10:=((B0.trans (B9.mono B0.size)).setCell (p:=⟨b0 + 1,0,none⟩) (by rw [HB0.out]; simp) (.slice (some ⟨q,0,none⟩) bn c13)).setCell (p:=⟨b0 + 1,1,none⟩) (by rw [HB0.out]; simp) (.slice TA bn tc)
  refine bodyPost_ret (v:=.agg #[.slice (some ⟨q,0,none⟩) bn c13,.slice TA bn tc]) (results_row1 (g:=b0 + 1) (t:=119) rfl rfl (by simpa using s2) Try.underlying119 rfl (by kernel_rfl)) rfl ⟨⟨_,_,rfl,own_inr o9b (by rw [List.length_set]; exact HLO.out)⟩,B10⟩
end Go.Proofs.Ytmemcopfeabcgaa
