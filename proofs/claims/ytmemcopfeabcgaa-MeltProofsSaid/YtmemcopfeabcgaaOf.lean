/- swarfkit.OrderOf. -/
import Derived.Test.YtmemcopfeabcgaaVfM
set_option linter.unusedSimpArgs false
set_option linter.unusedVariables false
namespace Go.Proofs.Ytmemcopfeabcgaa
open Go Go.RowKit
theorem own_num {w : World} {b q n c : Nat} {l : List Int} (h : w.ownsRow b 3 1 (.slice (some ⟨q,0,none⟩) n c) n (inr l).flatten) (hl : l.length = n) {j : Nat} (hj : j < l.length) : w.cell? ⟨q,j,none⟩ = some (.int .i64 l[j]):=by
 obtain ⟨ad,e,_,h2⟩:=inr_at (own_inr h hl) hj
 simp only [Option.some.injEq] at e
 subst e
 have e : (⟨q,0,none⟩ : Addr).add j = ⟨q,j,none⟩:=by unfold Addr.add; split <;> simp_all
 rwa [e] at h2
theorem OI.fin {g : Nat} {w V : World} {lm : List Int} {bs : List Bn} {le mo : Int} {lv bv : Value} {rs : List (List Value)} (h : OI g w lm bs le mo lv bv rs V) (hg : g < w.heap.size) {W : World} (hW : (((V.setCell ⟨w.heap.size,0,none⟩ lv).setCell ⟨w.heap.size,1,none⟩ (.int .i64 le)).setCell ⟨w.heap.size,2,none⟩ (.int .i64 mo)).setCell ⟨w.heap.size,3,none⟩ bv = W) :
  Bx W w.heap.size 27 #[lv,.int .i64 le,.int .i64 mo,bv] ∧ W.ownsRow w.heap.size 3 1 lv lm.length (inr lm).flatten ∧ W.ownsRow w.heap.size 42 4 bv bs.length rs.flatten ∧ BinsOwn W w.heap.size rs bs ∧ Fd g W ∧ w.grownBy W (some g):=by
 subst hW
 have a0:=h.k8
 have a1:=a0.set_ 0 lv
 have a2:=a1.set_ 1 (.int .i64 le)
 have a3:=a2.set_ 2 (.int .i64 mo)
 have a4:=a3.set_ 3 bv
 have k : ∀ {t s n : Nat} {v : Value} {xs : List Value},t ≠ 27 → V.ownsRow w.heap.size t s v n xs → ((((V.setCell ⟨w.heap.size,0,none⟩ lv).setCell ⟨w.heap.size,1,none⟩ (.int .i64 le)).setCell ⟨w.heap.size,2,none⟩ (.int .i64 mo)).setCell ⟨w.heap.size,3,none⟩ bv).ownsRow w.heap.size t s v n xs:=fun ht o => by
  have b1:=own_set o (own_bx o a0 (Ne.symm ht)) (o:=0) lv
  have b2:=own_set b1 (own_bx b1 a1 (Ne.symm ht)) (o:=1) (.int .i64 le)
  have b3:=own_set b2 (own_bx b2 a2 (Ne.symm ht)) (o:=2) (.int .i64 mo)
  exact own_set b3 (own_bx b3 a3 (Ne.symm ht)) (o:=3) bv
 refine ⟨by simpa using a4,k (by decide) h.ol,k (by decide) h.ob,(((h.bo.set_ a0 (by decide) 0 lv).set_ a1 (by decide) 1 _).set_ a2 (by decide) 2 _).set_ a3 (by decide) 3 bv,?_,?_⟩
 ·exact (((h.fd.far (by simp; omega) _).far (by simp; omega) _).far (by simp; omega) _).far (by simp; omega) _
 ·exact grown_new (grown_new (grown_new (grown_new h.gr (Nat.le_refl _) _) (Nat.le_refl _) _) (Nat.le_refl _) _) (Nat.le_refl _) _
def OrdPost (g : Nat) (m l q : Int) (w : World) (e : Ending) (w' : World) : Prop :=
 ∃ (o : Od) (LA BA : Option Addr) (lc bc : Nat),e = .returned (.agg #[.slice LA o.lm.length lc,.int .i64 o.le,.int .i64 o.mo,.slice BA o.bs.length bc]) ∧ Small o m l q ∧ OrdAt w' w'.heap.size LA BA o ∧ Fd g w' ∧ w.grownBy w' (some g)
set_option maxRecDepth 100000 in
set_option maxHeartbeats 8000000 in
theorem orderOf_any (g : Nat) (m l q : Int) (w : World) (h : Fd g w) (hm1 : 1 ≤ m) (hm2 : m ≤ 4) (hl1 : 0 ≤ l) (hl2 : l ≤ 3) (hq1 : 0 ≤ q) (hq2 : q ≤ 5) : Calls Try.prog 14 #[.pointer (some ⟨g,0,none⟩),.int .i64 m,.int .i64 l,.int .i64 q] w (OrdPost g m l q w):=by
 have hgl:=h.lt
 obtain ⟨i3,hi3,hz3,hs3,iy3⟩:=info_parts info3'
 obtain ⟨i39,hi39,hz39,hs39,iy39⟩:=info_parts info39
 obtain ⟨i42,hi42,hz42,hs42,iy42⟩:=info_parts info42
 have I0 : OI g w [] [] 0 0 (.slice none 0 0) (.slice none 0 0) [] ((w.alloc (.cells #[.slice none 0 0,.int .i64 0,.int .i64 0,.slice none 0 0] 27)).alloc (.cells #[.slice none 0 0,.int .i64 0,.int .i64 0,.slice none 0 0] 27)) :=
  ⟨(Bx.new w 27 _).alloc _,Bx.at (w.alloc _) 27 _ (n:=w.heap.size + 1) (by simp),World.ownsRow_nil _ _ _ _,World.ownsRow_nil _ _ _ _,.nil _ _,(h.alloc _).alloc _,grown_alloc (grown_alloc (grown_refl _ _) _) _⟩
 have HI0:=Lib.hid I0
 clear I0
 go_enter Try.func14,Try.ntmps14
 go_wp2_with (first | (go_at_call 25; refine (below_any g _ _ HI0.out.fd (by omega) (by omega)).mono ?_; rintro e w1 ⟨⟨n0,rfl,n1,n2⟩,hf,hg⟩; have I1:=HI0.out.ft ⟨hg,hf⟩ hgl) | fail)
 clear HI0 hf hg
 go_loopw [10] (fun v wr => ∃ (i : Int) (lm : List Int) (lv : Value),v = .int .i64 i ∧ 0 ≤ i ∧ (lm.length : Int) + i ≤ l ∧ (∀ x ∈ lm,20 ≤ x ∧ x ≤ 300) ∧ OI g w lm [] 0 0 lv (.slice none 0 0) [] wr) (fun v _ => (intOf v).toNat)
 case atStart => exact ⟨n0,[],.slice none 0 0,rfl,n1,by simp; omega,by simp,I1⟩
 case round =>
  clear I1
  obtain ⟨i,lm,lv,rfl,hi0,hil,hlm,I⟩:=hrel
  by_cases hi : 0 < i
  ·obtain ⟨LA,lc,rfl⟩:=own_shape I.ol
   obtain ⟨n,hn⟩ : ∃ n,lm.length = n:=⟨_,rfl⟩
   have HN:=Lib.hid hn
   have hn3 : n ≤ 3:=by omega
   have HIL : (n : Int) + i ≤ l:=by omega
   have IK:=I.k9
   have IO:=I.ol
   rw [hn] at IK IO
   have hbase : w.heap.size ≤ wr.heap.size:=I.gr.size
   have HI:=Lib.hid I
   have IF:=I.fd
   clear I hn hil
   have hwi : IntKind.i64.wrap (i - 1) = i - 1:=IntWalk.i64_in _ (by omega)
   have hng : w.heap.size + 1 ≠ g:=by omega
   go_wp2_with fail
   refine AnyG.startC (by kernel_rfl) ?_
   refine AnyG.takeP (i:=0) (v:=?_) rfl (by kernel_rfl) (fun _ _ _ h => h) rfl ?_ ?_
   rotate_left
   ·(intro w'; go_simp; try with_reducible rfl)
   try simp only [Act.put,Sp1,Sp2,Sp3,Sp4,Sp5,Sp6]
   refine AnyG.takeP (i:=2) (v:=?_) rfl (by kernel_rfl) (fun _ _ _ h => h) rfl ?_ ?_
   rotate_left
   ·(intro w'; go_simp; try with_reducible rfl)
   try simp only [Act.put,Sp1,Sp2,Sp3,Sp4,Sp5,Sp6]
   refine AnyG.enter (fun w' : World => Bx w' (w.heap.size + 1) 27 #[.slice LA n lc,.int .i64 0,.int .i64 0,.slice none 0 0]) (fun i => i != 7) ?_
   have hS : (fun w' : World => Bx w' (w.heap.size + 1) 27 #[.slice LA n lc,.int .i64 0,.int .i64 0,.slice none 0 0]) (World.drew _):=(IK.drew)
   refine AnyG.takeC (i:=1) (v:=?_) rfl (by kernel_rfl) (fun _ _ _ h => h) rfl ?_ hS ?_
   rotate_left
   ·(intro w' hSw; (try dsimp only at hSw); obtain ⟨l0,l1,l2,l3,lf,lz⟩:=hSw.four; go_simp; try with_reducible rfl)
   try simp only [Act.put,Sp1,Sp2,Sp3,Sp4,Sp5,Sp6]
   refine AnyG.one (i:=3) (by kernel_rfl) rfl rfl ?_
   go_simp
   refine (between_any g 20 300 _ IF.drew (by omega) (by omega) (by omega) (by omega)).mono ?_
   rintro er y3 ⟨⟨z,rfl,hz1,hz2⟩,hf3,hg3⟩
   have hT3 : FT g wr y3:=⟨grownF_trans (grown_drew _ _) hg3,hf3⟩
   clear hf3 hg3
   refine Onward.on (hT3.bx IK hng) (fun hS2 => ?_)
   clear hS
   have hS:=hS2
   clear hS2
   try simp only [Act.put,Sp1,Sp2,Sp3,Sp4,Sp5,Sp6]
   refine AnyG.one (i:=4) (by kernel_rfl) rfl rfl ?_
   have kb:=Bx.new y3 3 #[.int .i64 z]
   go_simp
   have hT4:=hT3.alloc (.cells #[.int .i64 z] 3)
   have IO4:=hT4.row IF IO (by decide)
   refine Onward.on (hS.alloc _) (fun hS2 => ?_)
   clear hS
   have hS:=hS2
   clear hS2
   try simp only [Act.put,Sp1,Sp2,Sp3,Sp4,Sp5,Sp6]
   refine AnyG.one (i:=5) (by kernel_rfl) rfl rfl ?_
   refine wp_app2 (.tmp 25) (.tmp 28) 22 rfl w.heap.size 3 i3 _ 1 8 Try.underlying22 hi3 hz3 hs3 iy3 rfl (by decide) (.slice LA n lc) n (inr lm).flatten (by simp [Act.eval]) IO4 ⟨y3.heap.size,0,none⟩ 1 1 [.int .i64 z] (by simp [Act.eval]) rfl (bx_news kb) (by simp [Value.oneCell']) (by unfold maxLen; omega) (by omega) (Nat.le_trans hbase hT4.size) ?_
   intro v' w' o1 o2 o3 o4
   obtain ⟨NA,NC,rfl⟩:=own_shape o1
   have k5:=hS.grown o2 (own_bx IO4 hS (by decide))
   refine Onward.on (k5) (fun hS2 => ?_)
   clear hS
   have hS:=hS2
   clear hS2
   try simp only [Act.put,Sp1,Sp2,Sp3,Sp4,Sp5,Sp6]
   refine AnyG.takeC (i:=6) (v:=?_) rfl (by kernel_rfl) (fun _ _ _ h => h) rfl ?_ hS ?_
   rotate_left
   ·(intro w' hSw; (try dsimp only at hSw); go_simp; try with_reducible rfl)
   try simp only [Act.put,Sp1,Sp2,Sp3,Sp4,Sp5,Sp6]
   refine AnyG.one (i:=7) (by kernel_rfl) rfl rfl ?_
   obtain ⟨l0,l1,l2,l3,lf,lz⟩:=k5.four
   go_simp
   refine Onward.last rfl ?_
   try simp only [Act.put,Sp1,Sp2,Sp3,Sp4,Sp5,Sp6]
   refine AnyG.done (by kernel_rfl) ?_ _
   go_simp
   go_wp2_with fail
   have hn:=HN.out
   have J:=(HI.out.ft hT4 hgl).lim hgl (z:=z) (x:=w') (v':=.slice NA (n + 1) NC) (by rw [hn]; exact o2) (by rw [hn]; exact o1)
   clear l0 l1 l2 l3 lf lz
   go_roundw
   case rel => exact ⟨i - 1,lm ++ [z],.slice NA (n + 1) NC,by go_num,by omega,by simp; omega,fun x hx => by rcases List.mem_append.1 hx with hx | hx; exact hlm x hx; simp at hx; omega,J⟩
   case measure => simp [intOf]; omega
  ·obtain rfl : i = 0:=by omega
   have hlen : (lm.length : Int) ≤ l:=by omega
   clear hi hi0 hil
   obtain ⟨LA,lc,rfl⟩:=own_shape I.ol
   obtain ⟨n,hn⟩ : ∃ n,lm.length = n:=⟨_,rfl⟩
   have hn3 : n ≤ 3:=by omega
   have HLM:=Lib.hid hlm
   clear hlm
   have HI:=Lib.hid I
   clear I
   go_wp2_with (first | (go_at_call 32; refine (between_any g 1 m _ HI.out.fd (by omega) (by omega) (by omega) (by omega)).mono ?_; rintro e w1 ⟨⟨n0,rfl,n1,n2⟩,hf,hg⟩; have I1:=HI.out.ft ⟨hg,hf⟩ hgl) | fail)
   clear HI hf hg
   rw [hn] at I1
   have HN:=Lib.hid hn
   clear hn
   go_loopw [11] (fun v wr => ∃ (i : Int) (bs : List Bn) (bv : Value) (rs : List (List Value)),v = .int .i64 i ∧ 0 ≤ i ∧ (bs.length : Int) + i ≤ m ∧ (1 ≤ bs.length ∨ 1 ≤ i) ∧ (∀ b ∈ bs,b.gr.length = n ∧ (∀ p ∈ b.gr,0 ≤ p.1 ∧ p.1 ≤ p.2 ∧ p.2 ≤ 600) ∧ 1 ≤ b.w ∧ b.w ≤ 20 ∧ 0 ≤ b.c ∧ b.c ≤ 49 ∧ 0 ≤ b.g ∧ b.g ≤ q) ∧ OI g w lm bs 0 0 (.slice LA n lc) bv rs wr) (fun v _ => (intOf v).toNat)
   case atStart => exact ⟨n0,[],.slice none 0 0,[],rfl,by omega,by simp; omega,by omega,by simp,I1⟩
   case round =>
    clear I1
    obtain ⟨i,bs,bv,rs,rfl,hi0,him,hb1,hbs,I⟩:=hrel
    by_cases hi : 0 < i
    ·obtain ⟨U,rfl⟩ : ∃ U,U = wr:=⟨_,rfl⟩
     obtain ⟨BA,bc,rfl⟩:=own_shape I.ob
     have hm4 : bs.length ≤ 3:=by omega
     have HBS:=Lib.hid hbs
     have HI:=Lib.hid I
     have IF:=I.fd
     have hbase : w.heap.size ≤ U.heap.size:=I.gr.size
     clear hbs I
     have hwi : IntKind.i64.wrap (i - 1) = i - 1:=IntWalk.i64_in _ (by omega)
     have T0:=FT.self IF
     go_wp2_with (first | (go_at_call 32; first | (have _t:=T3; clear _t; refine (between_any g 0 q _ T3.2 (by omega) (by omega) (by omega) (by omega)).mono ?_; rintro e y4 ⟨⟨gb,rfl,gb1,gb2⟩,hf4,hg4⟩; have T4:=T3.call hg4 hf4; clear hg4 hf4) | (refine (between_any g 1 20 _ T0.2 (by omega) (by omega) (by omega) (by omega)).mono ?_; rintro e y1 ⟨⟨wx,rfl,wx1,wx2⟩,hf1,hg1⟩; have T1:=T0.call hg1 hf1; clear hg1 hf1)) | (go_at_call 24; refine (either_any g _ 3 _ (fun r => 1 ≤ r ∧ r ≤ 20) _ (T1.alloc _).2 (Bx.new _ _ _) (by have:=T1.2.lt; omega) (by omega) (by omega) (bx3 _ ⟨by omega,by omega⟩ ⟨by omega,by omega⟩ ⟨by omega,by omega⟩)).mono ?_; rintro e y2 ⟨⟨wt,rfl,wt1,wt2⟩,hf2,hg2⟩; have T2:=(T1.alloc (.cells #[.int .i64 1,.int .i64 2,.int .i64 wx] 3)).call hg2 hf2; clear hg2 hf2) | (go_at_call 25; refine (below_any g 50 _ T2.2 (by omega) (by omega)).mono ?_; rintro e y3 ⟨⟨ct,rfl,ct1,ct2⟩,hf3,hg3⟩; have T3:=T2.call hg3 hf3; clear hg3 hf3) | fail)
     have T5:=T4.alloc (.cells #[.slice none 0 0,.int .i64 wt,.int .i64 ct,.int .i64 gb] 42)
     have kB:=Bx.new y4 42 #[.slice none 0 0,.int .i64 wt,.int .i64 ct,.int .i64 gb]
     have hy4:=T4.size
     obtain ⟨bB,hbB⟩ : ∃ b,y4.heap.size = b:=⟨_,rfl⟩
     obtain ⟨Y,hY⟩ : ∃ Y,y4.alloc (.cells #[.slice none 0 0,.int .i64 wt,.int .i64 ct,.int .i64 gb] 42) = Y:=⟨_,rfl⟩
     rw [hY] at T5 kB ⊢
     rw [hbB] at kB hy4 ⊢
     have hgB : g ≠ bB:=by have:=IF.lt; omega
     clear hY hbB T1 T2 T3 T4 T0
     go_loopw [13] (fun v x => ∃ (j : Nat) (gr : List (Int × Int)) (gv : Value),v = .int .i64 j ∧ j ≤ n ∧ gr.length = j ∧ (∀ p ∈ gr,0 ≤ p.1 ∧ p.1 ≤ p.2 ∧ p.2 ≤ 600) ∧ FT g U x ∧ Bx x bB 42 #[gv,.int .i64 wt,.int .i64 ct,.int .i64 gb] ∧ x.ownsRow U.heap.size 39 2 gv j (gnr gr).flatten) (fun v _ => n - (intOf v).toNat)
     case atStart => exact ⟨0,[],.slice none 0 0,rfl,by omega,rfl,by simp,T5,kB,World.ownsRow_nil _ _ _ _⟩
     case round =>
      clear T5 kB
      obtain ⟨j,gr,gv,rfl,hj,hgr,hgg,hT,kB,oG⟩:=hrel
      have J:=HI.out.ft hT hgl
      obtain ⟨l0,l1,l2,l3,lf,lz⟩:=J.k9.four
      by_cases hjn : j < n
      ·have hjl : j < lm.length:=by rw [HN.out]; exact hjn
       have OL : U.ownsRow w.heap.size 3 1 (.slice LA n lc) n (inr lm).flatten:=by have:=HI.out.ol; rwa [HN.out] at this
       obtain ⟨q0,rfl⟩:=own_some OL (by omega)
       have hlz:=HLM.out _ (List.getElem_mem hjl)
       obtain ⟨z,hz⟩ : ∃ z,lm[j] = z:=⟨_,rfl⟩
       rw [hz] at hlz
       have HZ:=Lib.hid hz
       clear hz
       obtain ⟨GA,gc,rfl⟩:=own_shape oG
       have hjw : IntKind.i64.wrap ((j : Int) + 1) = (j : Int) + 1:=IntWalk.i64_in _ (by omega)
       have hzw : IntKind.i64.wrap (2 * z) = 2 * z:=IntWalk.i64_in _ (by omega)
       have KW:=HI.out.k9
       have hng : w.heap.size + 1 ≠ g:=by omega
       clear J
       go_wp2_with fail
       clear l0 l1 l2 l3 lf lz
       refine AnyG.startC (by kernel_rfl) ?_
       refine AnyG.takeP (i:=0) (v:=?_) rfl (by kernel_rfl) (fun _ _ _ h => h) rfl ?_ ?_
       rotate_left
       ·(intro w'; go_simp; try with_reducible rfl)
       try simp only [Act.put,Sp1,Sp2,Sp3,Sp4,Sp5,Sp6]
       refine AnyG.takeP (i:=2) (v:=?_) rfl (by kernel_rfl) (fun _ _ _ h => h) rfl ?_ ?_
       rotate_left
       ·(intro w'; go_simp; try with_reducible rfl)
       try simp only [Act.put,Sp1,Sp2,Sp3,Sp4,Sp5,Sp6]
       refine AnyG.takeP (i:=3) (v:=?_) rfl (by kernel_rfl) (fun _ _ _ h => h) rfl ?_ ?_
       rotate_left
       ·(intro w'; go_simp; try with_reducible rfl)
       try simp only [Act.put,Sp1,Sp2,Sp3,Sp4,Sp5,Sp6]
       refine AnyG.takeP (i:=4) (v:=?_) rfl (by kernel_rfl) (fun _ _ _ h => h) rfl ?_ ?_
       rotate_left
       ·(intro w'; go_simp; try with_reducible rfl)
       try simp only [Act.put,Sp1,Sp2,Sp3,Sp4,Sp5,Sp6]
       refine AnyG.takeP (i:=6) (v:=?_) rfl (by kernel_rfl) (fun _ _ _ h => h) rfl ?_ ?_
       rotate_left
       ·(intro w'; go_simp; try with_reducible rfl)
       try simp only [Act.put,Sp1,Sp2,Sp3,Sp4,Sp5,Sp6]
       refine AnyG.takeP (i:=9) (v:=?_) rfl (by kernel_rfl) (fun _ _ _ h => h) rfl ?_ ?_
       rotate_left
       ·(intro w'; go_simp; try with_reducible rfl)
       try simp only [Act.put,Sp1,Sp2,Sp3,Sp4,Sp5,Sp6]
       refine AnyG.takeP (i:=11) (v:=?_) rfl (by kernel_rfl) (fun _ _ _ h => h) rfl ?_ ?_
       rotate_left
       ·(intro w'; go_simp; try with_reducible rfl)
       try simp only [Act.put,Sp1,Sp2,Sp3,Sp4,Sp5,Sp6]
       refine AnyG.enter (fun w' : World => FT g U w' ∧ Bx w' bB 42 #[.slice GA j gc,.int .i64 wt,.int .i64 ct,.int .i64 gb] ∧ w'.ownsRow U.heap.size 39 2 (.slice GA j gc) j (gnr gr).flatten) (fun i => i != 21) ?_
       have hS : (fun w' : World => FT g U w' ∧ Bx w' bB 42 #[.slice GA j gc,.int .i64 wt,.int .i64 ct,.int .i64 gb] ∧ w'.ownsRow U.heap.size 39 2 (.slice GA j gc) j (gnr gr).flatten) (World.drew _):=(⟨hT.drew,kB.drew,oG.drew⟩)
       refine AnyG.takeC (i:=1) (v:=?_) rfl (by kernel_rfl) (fun _ _ _ h => h) rfl ?_ hS ?_
       rotate_left
       ·(intro w' hSw; (try dsimp only at hSw); obtain ⟨b0,b1,b2,b3,bf,bz⟩:=hSw.2.1.four; go_simp; try with_reducible rfl)
       try simp only [Act.put,Sp1,Sp2,Sp3,Sp4,Sp5,Sp6]
       refine AnyG.takeC (i:=5) (v:=?_) rfl (by kernel_rfl) (fun _ _ _ h => h) rfl ?_ hS ?_
       rotate_left
       ·(intro w' hSw; (try dsimp only at hSw); obtain ⟨l0,l1,l2,l3,lf,lz⟩:=(hSw.1.bx KW hng).four; go_simp; try with_reducible rfl)
       try simp only [Act.put,Sp1,Sp2,Sp3,Sp4,Sp5,Sp6]
       refine AnyG.takeC (i:=7) (v:=?_) rfl (by kernel_rfl) (fun _ _ _ h => h) rfl ?_ hS ?_
       rotate_left
       ·(intro w' hSw; (try dsimp only at hSw); go_simp; try with_reducible rfl)
       try simp only [Act.put,Sp1,Sp2,Sp3,Sp4,Sp5,Sp6]
       refine AnyG.takeC (i:=8) (v:=?_) rfl (by kernel_rfl) (fun _ _ _ h => h) rfl ?_ hS ?_
       rotate_left
       ·(intro w' hSw; (try dsimp only at hSw); have p8:=own_num (hSw.1.row IF OL (by decide)) HN.out hjl; rw [HZ.out] at p8; go_simp; try with_reducible rfl)
       try simp only [Act.put,Sp1,Sp2,Sp3,Sp4,Sp5,Sp6]
       refine AnyG.takeC (i:=10) (v:=?_) rfl (by kernel_rfl) (fun _ _ _ h => h) rfl ?_ hS ?_
       rotate_left
       ·(intro w' hSw; (try dsimp only at hSw); obtain ⟨l0,l1,l2,l3,lf,lz⟩:=(hSw.1.bx KW hng).four; go_simp; try with_reducible rfl)
       try simp only [Act.put,Sp1,Sp2,Sp3,Sp4,Sp5,Sp6]
       refine AnyG.takeC (i:=12) (v:=?_) rfl (by kernel_rfl) (fun _ _ _ h => h) rfl ?_ hS ?_
       rotate_left
       ·(intro w' hSw; (try dsimp only at hSw); go_simp; try with_reducible rfl)
       try simp only [Act.put,Sp1,Sp2,Sp3,Sp4,Sp5,Sp6]
       refine AnyG.takeC (i:=13) (v:=?_) rfl (by kernel_rfl) (fun _ _ _ h => h) rfl ?_ hS ?_
       rotate_left
       ·(intro w' hSw; (try dsimp only at hSw); have p8:=own_num (hSw.1.row IF OL (by decide)) HN.out hjl; rw [HZ.out] at p8; go_simp; try with_reducible rfl)
       try simp only [Act.put,Sp1,Sp2,Sp3,Sp4,Sp5,Sp6]
       refine AnyG.takeC (i:=14) (v:=?_) rfl (by kernel_rfl) (fun _ _ _ h => h) rfl ?_ hS ?_
       rotate_left
       ·(intro w' hSw; (try dsimp only at hSw); go_simp; try with_reducible rfl)
       try simp only [Act.put,Sp1,Sp2,Sp3,Sp4,Sp5,Sp6]
       refine AnyG.one (i:=15) (by kernel_rfl) rfl rfl ?_
       go_simp
       refine Onward.on (⟨hS.1.alloc _,hS.2.1.alloc _,hS.2.2.alloc _⟩) (fun hS2 => ?_)
       clear hS
       have hS:=hS2
       clear hS2
       try simp only [Act.put,Sp1,Sp2,Sp3,Sp4,Sp5,Sp6]
       refine AnyG.one (i:=16) (by kernel_rfl) rfl rfl ?_
       go_simp
       refine (either_any g _ 2 _ (fun r => 0 ≤ r ∧ r ≤ 600) _ hS.1.2 (Bx.new _ _ _) (by have:=hS.1.2.lt; have:=hT.2.lt; simp at *; omega) (by omega) (by omega) (bx2 _ ⟨by omega,by omega⟩ ⟨by omega,by omega⟩)).mono ?_
       rintro er y16 ⟨⟨r,rfl,hr1,hr2⟩,hf16,hg16⟩
       refine Onward.on (⟨hS.1.call hg16 hf16,hS.2.1.grown hg16 (by simpa using Ne.symm hgB),own_fd hS.2.2 hS.1.2 hg16 (by decide)⟩) (fun hS2 => ?_)
       clear hS
       have hS:=hS2
       clear hS2
       try simp only [Act.put,Sp1,Sp2,Sp3,Sp4,Sp5,Sp6]
       refine AnyG.one (i:=17) (by kernel_rfl) rfl rfl ?_
       go_simp
       refine (range_any g 0 r _ hS.1.2 (by omega) (by omega) (by omega)).mono ?_
       rintro er y17 ⟨⟨ra,rb,rfl,ha1,ha2,ha3⟩,hf17,hg17⟩
       refine Onward.on (⟨hS.1.call hg17 hf17,hS.2.1.grown hg17 (by simpa using Ne.symm hgB),own_fd hS.2.2 hS.1.2 hg17 (by decide)⟩) (fun hS2 => ?_)
       clear hS
       have hS:=hS2
       clear hS2
       try simp only [Act.put,Sp1,Sp2,Sp3,Sp4,Sp5,Sp6]
       refine AnyG.one (i:=18) (by kernel_rfl) rfl rfl ?_
       have kb:=Bx.new y17 39 #[.int .i64 ra,.int .i64 rb]
       go_simp
       refine Onward.on (⟨hS.1.alloc _,hS.2.1.alloc _,hS.2.2.alloc _⟩) (fun hS2 => ?_)
       clear hS
       have hS:=hS2
       clear hS2
       try simp only [Act.put,Sp1,Sp2,Sp3,Sp4,Sp5,Sp6]
       refine AnyG.one (i:=19) (by kernel_rfl) rfl rfl ?_
       refine wp_app2 (.tmp 57) (.tmp 74) 40 rfl U.heap.size 39 i39 _ 2 16 Try.underlying40 hi39 hz39 hs39 iy39 rfl (by decide) (.slice GA j gc) j (gnr gr).flatten (by simp [Act.eval]) hS.2.2 ⟨y17.heap.size,0,none⟩ 1 1 [.int .i64 ra,.int .i64 rb] (by simp [Act.eval]) rfl (bx_news kb) (by simp [Value.oneCell']) (by unfold maxLen; omega) (by omega) (Nat.le_trans hS.1.size (by simp)) ?_
       intro v' w' o1 o2 o3 o4
       obtain ⟨NA,NC,rfl⟩:=own_shape o1
       have hT19:=hS.1.own hS.2.2 o2 (Nat.le_refl _) (by decide)
       have k19:=hS.2.1.grown o2 (own_bx hS.2.2 hS.2.1 (by decide))
       refine Onward.on (⟨hT19,k19,o3⟩) (fun hS2 => ?_)
       clear hS
       have hS:=hS2
       clear hS2
       try simp only [Act.put,Sp1,Sp2,Sp3,Sp4,Sp5,Sp6]
       refine AnyG.takeC (i:=20) (v:=?_) rfl (by kernel_rfl) (fun _ _ _ h => h) rfl ?_ hS ?_
       rotate_left
       ·(intro w' hSw; (try dsimp only at hSw); go_simp; try with_reducible rfl)
       try simp only [Act.put,Sp1,Sp2,Sp3,Sp4,Sp5,Sp6]
       refine AnyG.one (i:=21) (by kernel_rfl) rfl rfl ?_
       obtain ⟨b0,b1,b2,b3,bf,bz⟩:=k19.four
       go_simp
       refine Onward.last rfl ?_
       try simp only [Act.put,Sp1,Sp2,Sp3,Sp4,Sp5,Sp6]
       refine AnyG.done (by kernel_rfl) ?_ _
       go_simp
       go_wp2_with fail
       go_roundw
       case rel => exact ⟨j + 1,gr ++ [(ra,rb)],.slice NA (j + 1) NC,by go_num,by omega,by simp; omega,fun p hp => by rcases List.mem_append.1 hp with hp | hp; exact hgg p hp; simp at hp; subst hp; dsimp only; omega,hT19.set_ hy4 hgB _ _,by simpa using k19.set_ 0 (.slice NA (j + 1) NC),by rw [gnr_snoc]; exact own_set o1 (own_bx o1 k19 (by decide)) _⟩
       case measure => simp [intOf]; omega
      ·obtain rfl : j = n:=by omega
       obtain ⟨GA,gc,rfl⟩:=own_shape oG
       have J2:=HI.out.ft (hT.alloc (.cells #[.slice GA j gc,.int .i64 wt,.int .i64 ct,.int .i64 gb] 42)) hgl
       have hr : GrRow (wr.alloc (.cells #[.slice GA j gc,.int .i64 wt,.int .i64 ct,.int .i64 gb] 42)) w.heap.size [.slice GA j gc,.int .i64 wt,.int .i64 ct,.int .i64 gb] ⟨wt,ct,gb,gr⟩:=⟨GA,gc,by rw [hgr],by rw [hgr]; exact ownsRow_up (oG.alloc _) (fun k hk => Nat.le_trans hbase (oG.lt k hk).1)⟩
       have kb:=Bx.new wr 42 #[.slice GA j gc,.int .i64 wt,.int .i64 ct,.int .i64 gb]
       have OB:=J2.ob
       have hJs:=J2.gr.size
       have hbx : bs.length + 1 ≤ 4:=by omega
       obtain ⟨b0,b1,b2,b3,bf,bz⟩:=kB.four
       go_wp2_with (first | (at_builtin; refine wpList_app2 rfl (.tmp 78) (.tmp 80) 25 rfl w.heap.size 42 i42 _ 4 48 Try.underlying25 hi42 hz42 hs42 iy42 rfl (by decide) (.slice BA bs.length bc) bs.length rs.flatten rfl OB ⟨wr.heap.size,0,none⟩ 1 1 [.slice GA j gc,.int .i64 wt,.int .i64 ct,.int .i64 gb] rfl rfl (bx_news kb) (by simp [Value.oneCell']) (by unfold maxLen; omega) (by omega) (by simpa using hJs) ?_; intro v' w' o1 o2 o3; obtain ⟨NA,NC,rfl⟩:=own_shape o1; have k9':=J2.k9.grown o2 (own_bx OB J2.k9 (by decide)); clear l0 l1 l2 l3 lf lz; obtain ⟨l0,l1,l2,l3,lf,lz⟩:=k9'.four) | fail)
       have J3:=J2.bin hgl o2 o1 hr
       clear l0 l1 l2 l3 lf lz b0 b1 b2 b3 bf bz
       go_roundw
       case rel => exact ⟨i - 1,bs ++ [⟨wt,ct,gb,gr⟩],_,_,by go_num,by omega,by simp; omega,.inl (by simp),fun b hb => by rcases List.mem_append.1 hb with hb | hb; exact HBS.out b hb; simp at hb; subst hb; exact ⟨hgr,hgg,wt1,wt2,by dsimp only; omega,by dsimp only; omega,by dsimp only; omega,by dsimp only; omega⟩,J3⟩
       case measure => simp [intOf]; omega
    ·obtain rfl : i = 0:=by omega
     replace hb1 : 1 ≤ bs.length:=by omega
     have hbm : (bs.length : Int) ≤ m:=by omega
     clear hi hi0 him
     obtain ⟨U,rfl⟩ : ∃ U,U = wr:=⟨_,rfl⟩
     obtain ⟨BA,bc,rfl⟩:=own_shape I.ob
     have HBS:=Lib.hid hbs
     have HI:=Lib.hid I
     have IF:=I.fd
     clear hbs I
     obtain ⟨k,hk⟩ : ∃ k,bs.length = k:=⟨_,rfl⟩
     have hk4 : k ≤ 4:=by omega
     have BAT : ∀ x,FT g U x → BinsAt x x.heap.size BA bs:=fun x hx => (by have J:=HI.out.ft hx hgl; exact J.bo.at_ J.ob rfl)
     have KW:=HI.out.k9
     rw [hk] at KW
     have hng : w.heap.size + 1 ≠ g:=by omega
     have HK:=Lib.hid hk
     clear hk
     go_wp2_with fail
     go_loopw [14,15] (fun a v x => ∃ (all : Int) (i : Nat),a = .int .i64 all ∧ v = .int .i64 i ∧ i ≤ k ∧ 0 ≤ all ∧ all ≤ 100 * i ∧ FT g U x) (fun _ v _ => k - (intOf v).toNat)
     case atStart => exact ⟨0,0,rfl,rfl,by omega,by omega,by omega,FT.self IF⟩
     case round =>
      obtain ⟨all,i,rfl,rfl,hik,ha1,ha2,hT⟩:=hrel
      obtain ⟨l0,l1,l2,l3,lf,lz⟩:=(hT.bx KW hng).four
      by_cases hi : i < k
      ·have hil : i < bs.length:=by rw [HK.out]; exact hi
       obtain ⟨ad0,G0,c0,hA0,-⟩:=(BAT wr hT).at_ hil
       subst hA0
       have hbb:=HBS.out _ (List.getElem_mem hil)
       obtain ⟨b,hb⟩ : ∃ b,bs[i] = b:=⟨_,rfl⟩
       rw [hb] at hbb
       have HB:=Lib.hid hb
       clear hb
       obtain ⟨-,-,q1,q2,q3,q4,q5,q6⟩:=hbb
       have hmb:=mul_bd (show (0 : Int) ≤ b.w by omega) q2 q5 (show b.g ≤ 5 by omega)
       obtain ⟨P,hP⟩ : ∃ P,b.w * b.g = P:=⟨_,rfl⟩
       rw [hP] at hmb
       have hPw : IntKind.i64.wrap P = P:=IntWalk.i64_in _ (by omega)
       have haw : IntKind.i64.wrap (all + P) = all + P:=IntWalk.i64_in _ (by omega)
       have hjw : IntKind.i64.wrap ((i : Int) + 1) = (i : Int) + 1:=IntWalk.i64_in _ (by omega)
       go_wp2_with fail
       clear l0 l1 l2 l3 lf lz
       refine AnyG.startC (by kernel_rfl) ?_
       refine AnyG.takeP (i:=0) (v:=?_) rfl (by kernel_rfl) (fun _ _ _ h => h) rfl ?_ ?_
       rotate_left
       ·(intro w'; go_simp; try with_reducible rfl)
       try simp only [Act.put,Sp1,Sp2,Sp3,Sp4,Sp5,Sp6]
       refine AnyG.takeP (i:=1) (v:=?_) rfl (by kernel_rfl) (fun _ _ _ h => h) rfl ?_ ?_
       rotate_left
       ·(intro w'; go_simp; try with_reducible rfl)
       try simp only [Act.put,Sp1,Sp2,Sp3,Sp4,Sp5,Sp6]
       refine AnyG.takeP (i:=3) (v:=?_) rfl (by kernel_rfl) (fun _ _ _ h => h) rfl ?_ ?_
       rotate_left
       ·(intro w'; go_simp; try with_reducible rfl)
       try simp only [Act.put,Sp1,Sp2,Sp3,Sp4,Sp5,Sp6]
       refine AnyG.takeP (i:=7) (v:=?_) rfl (by kernel_rfl) (fun _ _ _ h => h) rfl ?_ ?_
       rotate_left
       ·(intro w'; go_simp; try with_reducible rfl)
       try simp only [Act.put,Sp1,Sp2,Sp3,Sp4,Sp5,Sp6]
       refine AnyG.takeP (i:=9) (v:=?_) rfl (by kernel_rfl) (fun _ _ _ h => h) rfl ?_ ?_
       rotate_left
       ·(intro w'; go_simp; try with_reducible rfl)
       try simp only [Act.put,Sp1,Sp2,Sp3,Sp4,Sp5,Sp6]
       refine AnyG.enter (fun w' : World => FT g U w') (fun i => true) ?_
       have hS : (fun w' : World => FT g U w') (World.drew _):=(hT.drew)
       refine AnyG.takeC (i:=2) (v:=?_) rfl (by kernel_rfl) (fun _ _ _ h => h) rfl ?_ hS ?_
       rotate_left
       ·(intro w' hSw; (try dsimp only at hSw); obtain ⟨l0,l1,l2,l3,lf,lz⟩:=(hSw.bx KW hng).four; go_simp; try with_reducible rfl)
       try simp only [Act.put,Sp1,Sp2,Sp3,Sp4,Sp5,Sp6]
       refine AnyG.takeC (i:=4) (v:=?_) rfl (by kernel_rfl) (fun _ _ _ h => h) rfl ?_ hS ?_
       rotate_left
       ·(intro w' hSw; (try dsimp only at hSw); go_simp; try with_reducible rfl)
       try simp only [Act.put,Sp1,Sp2,Sp3,Sp4,Sp5,Sp6]
       refine AnyG.takeC (i:=5) (v:=?_) rfl (by kernel_rfl) (fun _ _ _ h => h) rfl ?_ hS ?_
       rotate_left
       ·(intro w' hSw; (try dsimp only at hSw); go_simp; try with_reducible rfl)
       try simp only [Act.put,Sp1,Sp2,Sp3,Sp4,Sp5,Sp6]
       refine AnyG.takeC (i:=6) (v:=?_) rfl (by kernel_rfl) (fun _ _ _ h => h) rfl ?_ hS ?_
       rotate_left
       ·(intro w' hSw; (try dsimp only at hSw); obtain ⟨ad1,G1,c1,e1,_,p0,p1,p2,p3,_⟩:=(BAT w' hSw).at_ hil; simp only [Option.some.injEq] at e1; subst e1; rw [HB.out] at p0 p1 p2 p3; go_simp; try with_reducible rfl)
       try simp only [Act.put,Sp1,Sp2,Sp3,Sp4,Sp5,Sp6]
       refine AnyG.takeC (i:=8) (v:=?_) rfl (by kernel_rfl) (fun _ _ _ h => h) rfl ?_ hS ?_
       rotate_left
       ·(intro w' hSw; (try dsimp only at hSw); obtain ⟨l0,l1,l2,l3,lf,lz⟩:=(hSw.bx KW hng).four; go_simp; try with_reducible rfl)
       try simp only [Act.put,Sp1,Sp2,Sp3,Sp4,Sp5,Sp6]
       refine AnyG.takeC (i:=10) (v:=?_) rfl (by kernel_rfl) (fun _ _ _ h => h) rfl ?_ hS ?_
       rotate_left
       ·(intro w' hSw; (try dsimp only at hSw); go_simp; try with_reducible rfl)
       try simp only [Act.put,Sp1,Sp2,Sp3,Sp4,Sp5,Sp6]
       refine AnyG.takeC (i:=11) (v:=?_) rfl (by kernel_rfl) (fun _ _ _ h => h) rfl ?_ hS ?_
       rotate_left
       ·(intro w' hSw; (try dsimp only at hSw); go_simp; try with_reducible rfl)
       try simp only [Act.put,Sp1,Sp2,Sp3,Sp4,Sp5,Sp6]
       refine AnyG.takeC (i:=12) (v:=?_) rfl (by kernel_rfl) (fun _ _ _ h => h) rfl ?_ hS ?_
       rotate_left
       ·(intro w' hSw; (try dsimp only at hSw); obtain ⟨ad1,G1,c1,e1,_,p0,p1,p2,p3,_⟩:=(BAT w' hSw).at_ hil; simp only [Option.some.injEq] at e1; subst e1; rw [HB.out] at p0 p1 p2 p3; go_simp; try with_reducible rfl)
       try simp only [Act.put,Sp1,Sp2,Sp3,Sp4,Sp5,Sp6]
       refine AnyG.takeC (i:=13) (v:=?_) rfl (by kernel_rfl) (fun _ _ _ h => h) rfl ?_ hS ?_
       rotate_left
       ·(intro w' hSw; (try dsimp only at hSw); go_simp; try with_reducible rfl)
       try simp only [Act.put,Sp1,Sp2,Sp3,Sp4,Sp5,Sp6]
       refine AnyG.takeC (i:=14) (v:=?_) rfl (by kernel_rfl) (fun _ _ _ h => h) rfl ?_ hS ?_
       rotate_left
       ·(intro w' hSw; (try dsimp only at hSw); go_simp; try with_reducible rfl)
       try simp only [Act.put,Sp1,Sp2,Sp3,Sp4,Sp5,Sp6]
       refine AnyG.takeC (i:=15) (v:=?_) rfl (by kernel_rfl) (fun _ _ _ h => h) rfl ?_ hS ?_
       rotate_left
       ·(intro w' hSw; (try dsimp only at hSw); go_simp; try with_reducible rfl)
       try simp only [Act.put,Sp1,Sp2,Sp3,Sp4,Sp5,Sp6]
       refine AnyG.done (by kernel_rfl) ?_ _
       go_simp
       go_wp2_with fail
       go_roundw
       case rel => exact ⟨all + P,i + 1,by first | rfl | go_num,by go_num,by omega,by omega,by push_cast; omega,hT.drew⟩
       case measure => simp [intOf]; omega
      ·obtain rfl : i = k:=by omega
       have hall : all ≤ 400:=by omega
       clear hi hik ha2
       have w1 : IntKind.i64.wrap (all + 2) = all + 2:=IntWalk.i64_in _ (by omega)
       have w2 : IntKind.i64.wrap (all + 1) = all + 1:=IntWalk.i64_in _ (by omega)
       go_wp2_with (first | (go_at_call 25; refine (below_any g _ _ hT.2 (by omega) (by omega)).mono ?_; rintro e y1 ⟨⟨le,rfl,le1,le2⟩,hf1,hg1⟩; replace hT:=hT.call hg1 hf1; clear l0 l1 l2 l3 lf lz; obtain ⟨l0,l1,l2,l3,lf,lz⟩:=(hT.bx KW hng).four; clear hg1 hf1) | fail)
       have J:=(HI.out.ft hT hgl).num hgl 1 le le 0 (by simp)
       clear l0 l1 l2 l3 lf lz hT
       obtain ⟨V,hU⟩ : ∃ V,y1.setCell ⟨w.heap.size + 1,1,none⟩ (.int .i64 le) = V:=⟨_,rfl⟩
       rw [hU] at J ⊢
       clear hU
       have JF:=J.fd
       have JK:=J.k9
       rw [HK.out] at JK
       have HJ:=Lib.hid J
       clear J
       refine AnyG.startC (by kernel_rfl) ?_
       refine AnyG.takeP (i:=0) (v:=?_) rfl (by kernel_rfl) (fun _ _ _ h => h) rfl ?_ ?_
       rotate_left
       ·(intro w'; go_simp; try with_reducible rfl)
       try simp only [Act.put,Sp1,Sp2,Sp3,Sp4,Sp5,Sp6]
       refine AnyG.takeP (i:=2) (v:=?_) rfl (by kernel_rfl) (fun _ _ _ h => h) rfl ?_ ?_
       rotate_left
       ·(intro w'; go_simp; try with_reducible rfl)
       try simp only [Act.put,Sp1,Sp2,Sp3,Sp4,Sp5,Sp6]
       refine AnyG.takeP (i:=3) (v:=?_) rfl (by kernel_rfl) (fun _ _ _ h => h) rfl ?_ ?_
       rotate_left
       ·(intro w'; go_simp; try with_reducible rfl)
       try simp only [Act.put,Sp1,Sp2,Sp3,Sp4,Sp5,Sp6]
       refine AnyG.takeP (i:=5) (v:=?_) rfl (by kernel_rfl) (fun _ _ _ h => h) rfl ?_ ?_
       rotate_left
       ·(intro w'; go_simp; try with_reducible rfl)
       try simp only [Act.put,Sp1,Sp2,Sp3,Sp4,Sp5,Sp6]
       refine AnyG.takeP (i:=6) (v:=?_) rfl (by kernel_rfl) (fun _ _ _ h => h) rfl ?_ ?_
       rotate_left
       ·(intro w'; go_simp; try with_reducible rfl)
       try simp only [Act.put,Sp1,Sp2,Sp3,Sp4,Sp5,Sp6]
       refine AnyG.takeP (i:=7) (v:=?_) rfl (by kernel_rfl) (fun _ _ _ h => h) rfl ?_ ?_
       rotate_left
       ·(intro w'; go_simp; try with_reducible rfl)
       try simp only [Act.put,Sp1,Sp2,Sp3,Sp4,Sp5,Sp6]
       refine AnyG.enter (fun w' : World => FT g V w') (fun i => i != 13) ?_
       have hS : (fun w' : World => FT g V w') (World.drew _):=((FT.self JF).drew)
       refine AnyG.takeC (i:=1) (v:=?_) rfl (by kernel_rfl) (fun _ _ _ h => h) rfl ?_ hS ?_
       rotate_left
       ·(intro w' hSw; (try dsimp only at hSw); obtain ⟨l0,l1,l2,l3,lf,lz⟩:=(hSw.bx JK hng).four; go_simp; try with_reducible rfl)
       try simp only [Act.put,Sp1,Sp2,Sp3,Sp4,Sp5,Sp6]
       refine AnyG.one (i:=4) (by kernel_rfl) rfl rfl ?_
       go_simp
       refine (below_any g 5 _ hS.2 (by omega) (by omega)).mono ?_
       rintro er y4 ⟨⟨d5,rfl,d51,d52⟩,hf4,hg4⟩
       refine Onward.on (hS.call hg4 hf4) (fun hS2 => ?_)
       clear hS
       have hS:=hS2
       clear hS2
       try simp only [Act.put,Sp1,Sp2,Sp3,Sp4,Sp5,Sp6]
       refine AnyG.one (i:=8) (by kernel_rfl) rfl rfl ?_
       go_simp
       refine (below_any g (all + 1) _ hS.2 (by omega) (by omega)).mono ?_
       rintro er y8 ⟨⟨da,rfl,da1,da2⟩,hf8,hg8⟩
       have hT8:=hS.call hg8 hf8
       refine Onward.on (hT8) (fun hS2 => ?_)
       clear hS
       have hS:=hS2
       clear hS2
       try simp only [Act.put,Sp1,Sp2,Sp3,Sp4,Sp5,Sp6]
       refine AnyG.one (i:=9) (by kernel_rfl) rfl rfl ?_
       go_simp
       refine Onward.on (hS.alloc _) (fun hS2 => ?_)
       clear hS
       have hS:=hS2
       clear hS2
       try simp only [Act.put,Sp1,Sp2,Sp3,Sp4,Sp5,Sp6]
       refine AnyG.one (i:=10) (by kernel_rfl) rfl rfl ?_
       go_simp
       refine (either_any g _ 3 _ (fun r => 0 ≤ r ∧ r ≤ 400) _ hS.2 (Bx.new _ _ _) (by have:=hS.2.lt; have:=JF.lt; have:=hT8.size; omega) (by omega) (by omega) (bx3 _ ⟨by omega,by omega⟩ ⟨by omega,by omega⟩ ⟨by omega,by omega⟩)).mono ?_
       rintro er y10 ⟨⟨dd,rfl,dd1,dd2⟩,hf10,hg10⟩
       have hT10:=hS.call hg10 hf10
       have hlw : IntKind.i64.wrap (le + dd) = le + dd:=IntWalk.i64_in _ (by omega)
       refine Onward.on (hT10) (fun hS2 => ?_)
       clear hS
       have hS:=hS2
       clear hS2
       try simp only [Act.put,Sp1,Sp2,Sp3,Sp4,Sp5,Sp6]
       refine AnyG.takeC (i:=11) (v:=?_) rfl (by kernel_rfl) (fun _ _ _ h => h) rfl ?_ hS ?_
       rotate_left
       ·(intro w' hSw; (try dsimp only at hSw); go_simp; try with_reducible rfl)
       try simp only [Act.put,Sp1,Sp2,Sp3,Sp4,Sp5,Sp6]
       refine AnyG.takeC (i:=12) (v:=?_) rfl (by kernel_rfl) (fun _ _ _ h => h) rfl ?_ hS ?_
       rotate_left
       ·(intro w' hSw; (try dsimp only at hSw); go_simp; try with_reducible rfl)
       try simp only [Act.put,Sp1,Sp2,Sp3,Sp4,Sp5,Sp6]
       refine AnyG.one (i:=13) (by kernel_rfl) rfl rfl ?_
       obtain ⟨l0,l1,l2,l3,lf,lz⟩:=(hT10.bx JK hng).four
       go_simp
       refine Onward.last rfl ?_
       try simp only [Act.put,Sp1,Sp2,Sp3,Sp4,Sp5,Sp6]
       refine AnyG.done (by kernel_rfl) ?_ _
       go_simp
       clear l0 l1 l2 l3 lf lz
       have J2:=(HJ.out.ft hT10 hgl).num hgl 2 (le + dd) le (le + dd) (by simp)
       obtain ⟨U2,hU2⟩ : ∃ U,y10.setCell ⟨w.heap.size + 1,2,none⟩ (.int .i64 (le + dd)) = U:=⟨_,rfl⟩
       rw [hU2] at J2 ⊢
       clear hU2
       have J2K:=J2.k9
       have J28:=J2.k8
       rw [HK.out] at J2K
       obtain ⟨l0,l1,l2,l3,lf,lz⟩:=J2K.four
       obtain ⟨m0,m1,m2,m3,mf,mz⟩:=J28.four
       go_wp2_with fail
       obtain ⟨W,hW⟩ : ∃ W,(((U2.setCell ⟨w.heap.size,0,none⟩ (.slice LA n lc)).setCell ⟨w.heap.size,1,none⟩ (.int .i64 le)).setCell ⟨w.heap.size,2,none⟩ (.int .i64 (le + dd))).setCell ⟨w.heap.size,3,none⟩ (.slice BA i bc) = W:=⟨_,rfl⟩
       have J3:=J2
       have HKo:=HK.out
       subst HKo
       obtain ⟨f1,f2,f3,f4,f5,f6⟩:=J2.fin hgl hW
       rw [hW]
       have HNo:=HN.out
       subst HNo
       refine bodyPost_ret (v:=.agg #[.slice LA lm.length lc,.int .i64 le,.int .i64 (le + dd),.slice BA bs.length bc]) (results_row1 (g:=w.heap.size) (t:=27) rfl rfl f1 Try.underlying27 rfl (by kernel_rfl)) rfl ⟨⟨lm,le,le + dd,bs⟩,LA,BA,lc,bc,rfl,⟨by dsimp only; omega,HLM.out,hb1,hbm,fun b hb => HBS.out b hb,le1,by dsimp only; omega,by dsimp only; omega⟩,⟨own_inr f2 rfl,f4.at_ f3 rfl⟩,f5,f6⟩
end Go.Proofs.Ytmemcopfeabcgaa
