/- MeltProofs: its round, and the whole. -/
import Derived.Test.YtmemcopfeabcgaaMp1
set_option linter.unusedSimpArgs false
set_option linter.unusedVariables false
namespace Go.Proofs.Ytmemcopfeabcgaa
open Go Go.RowKit
set_option maxRecDepth 100000 in
set_option maxHeartbeats 16000000 in
theorem meltProofs_B (LA : Option Addr) (ln lc : Nat) (BA : Option Addr) (bn bc : Nat) (o : Od) (price : Int) (PA : Option Addr) (pl pc : Nat) (LP : List Bd) (r : Bd) (at_ : Int) (A : Option Addr) (m c : Nat) (L : List Int) (w : World) : (meltProofs_A LA ln lc BA bn bc o price PA pl pc LP r at_ A m c L w).2.1:=by
 intro hpc ha0 ha1 hm HLN HBN HL HPL V HV b0 HB0 qq wc hln20 hbn20 hpl60 HGR hb0l w3 g hg0 hgb hgb9 hwg w4 om MA NA mc nc HOM ml mn hml3 hmn4 HML HMN U bm hgl hgm HOG HOG1 w5 s vs cc ec y1 ra y3 q0 q hq0 w7 RA rc RL rn hrc hrl HRN i69 hi69 hz69 hs69 iy69 w8 OA oc hoc OL HOL W9 u31 u32 u33 u34 u35 u36 u37 u38 u39 u40 u41 u42 u43 u44 u45 u46 u47 u48 u49 u50 u51 u52 u53 u54 u55 u56 u57 u58 u59 u60 u61 u62 u63 u64 u65 u66 u67 u68 u69 u70 u71 u72 u73 u74 u75 u76 u77 u78 u79 u80 u81 u82 u83 u84 u85 u86 u87 u88 u89 u90 u91 u92 u93 u94 u95 u96 u97 u98 u99 u100 u101 u102 u103 u104 u105 u106 u107 u108 u109 u110 u111 u112 u113 u202 b98 b107 b113 rb W B11 KOS KPS KSS HR KK wr u12 u25 u26 u27 u28 u29 u30 u114 u115 u116 u117 u118 u119 u120 u121 u122 u123 u124 u125 u126 u127 u128 u129 u130 u131 u132 u133 u134 u135 u136 u137 u138 u139 u140 u141 u142 u143 u144 u145 u146 u147 u148 u149 u150 u151 u152 u153 u154 u155 u156 u157 u158 u159 u160 u161 u162 u163 u164 u165 u166 u167 u168 u169 u170 u171 u172 u173 u174 u175 u176 u177 u178 u179 u180 u181 u182 u183 u184 u185 u186 u187 u188 u189 u190 u191 u192 u193 u194 u195 u196 u197 u198 u199 u200 u201 i hi hWr hi3 o9 LA9 ln9 lc9 BA9 bn9 bc9 p9 SA9 n9 sc9 BL9 hln9 hbn9 hn9 hsc9 hO9 hSB9 HQO HQP HQS HLN9 HBN9 HG209 HG19 HBL9 hi3' hiw
 go_upto_region 15 with fail
 go_cut [25,26] (fun v12 v13 x => ∃ (b12 : Nat) (XA : Option Addr) (xc : Nat) (YA : Option Addr) (yc : Nat) (IA : Option Addr) (ic : Nat),v12 = .pointer (some ⟨b12,0,none⟩) ∧ v13 = .slice IA n9 ic ∧ n9 ≤ ic ∧ Bx x b12 27 #[.slice XA ln9 xc,.int .i64 o9.le,.int .i64 o9.mo,.slice YA bn9 yc] ∧ OrdAt x x.heap.size XA YA o9 ∧ Sl x x.heap.size 3 IA (BL9.map bdr) ∧ Below W.heap.size W x)
 case first =>
  apply by_tail9 (Hy:=fun y b12 b5 XA xc YA yc IA ic rs => Below wr.heap.size wr y ∧ wr.heap.size ≤ b12 ∧ Bx y b12 27 #[.slice none 0 0,.int .i64 0,.int .i64 0,.slice none 0 0] ∧ y.ownsRow wr.heap.size 3 1 (.slice XA ln9 xc) ln9 (inr o9.lm).flatten ∧ y.ownsRow wr.heap.size 42 4 (.slice YA bn9 yc) bn9 rs.flatten ∧ BinsOwn y wr.heap.size rs o9.bs ∧ y.ownsRow wr.heap.size 69 3 (.slice IA n9 ic) n9 (bdrs BL9))
  case main =>
   intro tail
   refine AnyG.startC (by as_aux_lemma => kernel_rfl) ?_
   refine AnyG.takeP (i:=0) (v:=?_) rfl (by as_aux_lemma => kernel_rfl) (fun _ _ _ h => h) rfl ?_ ?_
   rotate_left
   ·(intro w'; go_simp; try with_reducible rfl)
   try simp only [Act.put,Sp1,Sp2,Sp3,Sp4,Sp5,Sp6]
   refine AnyG.takeP (i:=1) (v:=?_) rfl (by as_aux_lemma => kernel_rfl) (fun _ _ _ h => h) rfl ?_ ?_
   rotate_left
   ·(intro w'; go_simp; try with_reducible rfl)
   try simp only [Act.put,Sp1,Sp2,Sp3,Sp4,Sp5,Sp6]
   refine AnyG.takeP (i:=2) (v:=?_) rfl (by as_aux_lemma => kernel_rfl) (fun _ _ _ h => h) rfl ?_ ?_
   rotate_left
   ·(intro w'; go_simp; try with_reducible rfl)
   try simp only [Act.put,Sp1,Sp2,Sp3,Sp4,Sp5,Sp6]
   refine AnyG.takeP (i:=6) (v:=?_) rfl (by as_aux_lemma => kernel_rfl) (fun _ _ _ h => h) rfl ?_ ?_
   rotate_left
   ·(intro w'; go_simp; try with_reducible rfl)
   try simp only [Act.put,Sp1,Sp2,Sp3,Sp4,Sp5,Sp6]
   refine AnyG.takeP (i:=7) (v:=?_) rfl (by as_aux_lemma => kernel_rfl) (fun _ _ _ h => h) rfl ?_ ?_
   rotate_left
   ·(intro w'; go_simp; try with_reducible rfl)
   try simp only [Act.put,Sp1,Sp2,Sp3,Sp4,Sp5,Sp6]
   refine AnyG.takeP (i:=8) (v:=?_) rfl (by as_aux_lemma => kernel_rfl) (fun _ _ _ h => h) rfl ?_ ?_
   rotate_left
   ·(intro w'; go_simp; try with_reducible rfl)
   try simp only [Act.put,Sp1,Sp2,Sp3,Sp4,Sp5,Sp6]
   refine AnyG.enter (fun w' : World => Below wr.heap.size wr w') (fun i => i != 12 && i != 13) ?_
   have hS : (fun w' : World => Below wr.heap.size wr w') (wr.drew):=(Below.refl _ _).drew
   try dsimp only at hS
   obtain ⟨y0,hy0⟩ : ∃ y,wr.drew = y:=⟨_,rfl⟩
   rw [hy0] at hS ⊢
   clear hy0
   refine AnyG.takeC (i:=3) (v:=?_) rfl (by as_aux_lemma => kernel_rfl) (fun _ _ _ h => h) rfl ?_ hS ?_
   rotate_left
   ·(intro w' hSw; (try dsimp only at hSw); obtain ⟨q0,q1,q2,q3⟩:=HQO.out _ (hWr.trans (hSw.mono hWr.size)); go_simp; try with_reducible rfl)
   try simp only [Act.put,Sp1,Sp2,Sp3,Sp4,Sp5,Sp6]
   refine AnyG.takeC (i:=9) (v:=?_) rfl (by as_aux_lemma => kernel_rfl) (fun _ _ _ h => h) rfl ?_ hS ?_
   rotate_left
   ·(intro w' hSw; (try dsimp only at hSw); have rs0:=HQS.out _ (hWr.trans (hSw.mono hWr.size)); go_simp; try with_reducible rfl)
   try simp only [Act.put,Sp1,Sp2,Sp3,Sp4,Sp5,Sp6]
   refine AnyG.all (rs:=[4,5,11]) (by as_aux_lemma => kernel_rfl) (by simp) ?_
   intro ii hii
   simp only [List.mem_cons,List.not_mem_nil,or_false] at hii
   rcases hii with rfl | rfl | rfl
   ·refine ⟨_,rfl,rfl,?_⟩
    go_simp
    refine (copyOrder_gen LA9 ln9 lc9 BA9 bn9 bc9 o9 _ HLN9.out HBN9.out (hO9.call (hWr.trans (hS.mono hWr.size))) (by omega) (by omega) HG209.out).mono ?_
    rintro e4 y4 ⟨XA,xc,YA,yc,rs,rfl,ox,oy,bo,hq4⟩
    replace ox:=ownsRow_up (b':=wr.heap.size) ox (fun q e => Nat.le_trans hS.size (ox.lt q e).1)
    replace oy:=ownsRow_up (b':=wr.heap.size) oy (fun q e => Nat.le_trans hS.size (oy.lt q e).1)
    replace bo:=bo.up hS.size
    have hSn:=(hS.trans (hq4.mono hS.size))
    clear hS
    refine Onward.on hSn (fun hS => ?_)
    try dsimp only at hS
    clear hSn
    try simp only [Act.put,Sp1,Sp2,Sp3,Sp4,Sp5,Sp6]
    refine AnyG.all (rs:=[5,11]) (by as_aux_lemma => kernel_rfl) (by simp) ?_
    intro ii hii
    simp only [List.mem_cons,List.not_mem_nil,or_false] at hii
    rcases hii with rfl | rfl
    ·refine ⟨_,rfl,rfl,?_⟩
     go_simp
     have oe:=World.ownsRow_made (w:=y4) (base:=wr.heap.size) (e:=69) (size:=3) #[] 0 hS.size (by unfold maxLen; omega) (by simp)
     replace ox:=own_bel ox ((Below.refl _ _).alloc (Nat.le_refl _) (.cells #[] 69))
     replace oy:=own_bel oy ((Below.refl _ _).alloc (Nat.le_refl _) (.cells #[] 69))
     replace bo:=bo.bel ((Below.refl _ _).alloc (Nat.le_refl _) (.cells #[] 69))
     have hT:=hS.alloc hS.size (.cells #[] 69)
     obtain ⟨z5,hy⟩ : ∃ x,y4.alloc (.cells #[] 69) = x:=⟨_,rfl⟩
     rw [hy] at ox oy bo oe hT ⊢
     obtain ⟨b5,hbq⟩ : ∃ p,y4.heap.size = p:=⟨_,rfl⟩
     rw [hbq] at oe ⊢
     clear hy hbq
     have hSn:=hT
     clear hS
     refine Onward.on hSn (fun hS => ?_)
     try dsimp only at hS
     clear hSn
     try simp only [Act.put,Sp1,Sp2,Sp3,Sp4,Sp5,Sp6]
     refine AnyG.all (rs:=[10,11]) (by as_aux_lemma => kernel_rfl) (by simp) ?_
     intro ii hii
     simp only [List.mem_cons,List.not_mem_nil,or_false] at hii
     rcases hii with rfl | rfl
     ·refine ⟨_,rfl,rfl,?_⟩
      refine wp_app3 (.tmp 125) (.tmp 129) 51 rfl wr.heap.size 69 i69 _ 3 24 Try.underlying51 hi69 hz69 hs69 iy69 rfl (by decide) (.slice (some ⟨b5,0,none⟩) 0 0) 0 [] (by simp [Act.eval]) oe SA9 n9 sc9 (bdrs BL9) (by simp [Act.eval]) (by rw [bdrs_len,HBL9.out]) (sl_news (hSB9.call (hWr.trans (hS.mono hWr.size))) (by omega) (bdr_len BL9)) (bdrs_cell BL9) (by unfold maxLen; omega) (by omega) hS.size ?_
      intro v30 z10 oi g10 x10 r10
      rw [Nat.zero_add,List.nil_append] at oi
      obtain ⟨IA,ic,rfl⟩:=own_shape oi
      replace ox:=ox.kept g10 (own_ne ox oe (by decide))
      replace oy:=oy.kept g10 (own_ne oy oe (by decide))
      replace bo:=bo.own oe g10 (by decide)
      have hSn:=hS.grown g10 hS.size (fun q e => (oe.lt q e).1)
      clear hS
      refine Onward.on hSn (fun hS => ?_)
      try dsimp only at hS
      clear hSn
      try simp only [Act.put,Sp1,Sp2,Sp3,Sp4,Sp5,Sp6]
      refine AnyG.one (i:=11) (by as_aux_lemma => kernel_rfl) rfl rfl ?_
      go_simp
      have c12:=Bx.new z10 27 #[.slice none 0 0,.int .i64 0,.int .i64 0,.slice none 0 0]
      have hlb:=hS.size
      replace ox:=own_bel ox ((Below.refl _ _).alloc (Nat.le_refl _) (.cells #[.slice none 0 0,.int .i64 0,.int .i64 0,.slice none 0 0] 27))
      replace oy:=own_bel oy ((Below.refl _ _).alloc (Nat.le_refl _) (.cells #[.slice none 0 0,.int .i64 0,.int .i64 0,.slice none 0 0] 27))
      replace bo:=bo.bel ((Below.refl _ _).alloc (Nat.le_refl _) (.cells #[.slice none 0 0,.int .i64 0,.int .i64 0,.slice none 0 0] 27))
      replace oi:=own_bel oi ((Below.refl _ _).alloc (Nat.le_refl _) (.cells #[.slice none 0 0,.int .i64 0,.int .i64 0,.slice none 0 0] 27))
      have hT:=hS.alloc hS.size (.cells #[.slice none 0 0,.int .i64 0,.int .i64 0,.slice none 0 0] 27)
      obtain ⟨z11,hy⟩ : ∃ x,z10.alloc (.cells #[.slice none 0 0,.int .i64 0,.int .i64 0,.slice none 0 0] 27) = x:=⟨_,rfl⟩
      rw [hy] at ox oy bo oi c12 hT ⊢
      obtain ⟨b12,hbq⟩ : ∃ p,z10.heap.size = p:=⟨_,rfl⟩
      rw [hbq] at c12 hlb ⊢
      clear hy hbq
      have hSn:=hT
      clear hS
      refine Onward.on hSn (fun hS => ?_)
      try dsimp only at hS
      clear hSn
      try simp only [Act.put,Sp1,Sp2,Sp3,Sp4,Sp5,Sp6]
      refine AnyG.castL (L':=#[true,true,true,true,true,true,true,true,true,true,true,true,false,false]) (by as_aux_lemma => kernel_rfl) ?_
      exact tail z11 b12 b5 XA xc YA yc IA ic rs ⟨hS,hlb,c12,ox,oy,bo,oi⟩
     ·refine ⟨_,rfl,rfl,?_⟩
      go_simp
      have c12:=Bx.new z5 27 #[.slice none 0 0,.int .i64 0,.int .i64 0,.slice none 0 0]
      have hlb:=hS.size
      replace ox:=own_bel ox ((Below.refl _ _).alloc (Nat.le_refl _) (.cells #[.slice none 0 0,.int .i64 0,.int .i64 0,.slice none 0 0] 27))
      replace oy:=own_bel oy ((Below.refl _ _).alloc (Nat.le_refl _) (.cells #[.slice none 0 0,.int .i64 0,.int .i64 0,.slice none 0 0] 27))
      replace bo:=bo.bel ((Below.refl _ _).alloc (Nat.le_refl _) (.cells #[.slice none 0 0,.int .i64 0,.int .i64 0,.slice none 0 0] 27))
      replace oe:=own_bel oe ((Below.refl _ _).alloc (Nat.le_refl _) (.cells #[.slice none 0 0,.int .i64 0,.int .i64 0,.slice none 0 0] 27))
      have hT:=hS.alloc hS.size (.cells #[.slice none 0 0,.int .i64 0,.int .i64 0,.slice none 0 0] 27)
      obtain ⟨z11,hy⟩ : ∃ x,z5.alloc (.cells #[.slice none 0 0,.int .i64 0,.int .i64 0,.slice none 0 0] 27) = x:=⟨_,rfl⟩
      rw [hy] at ox oy bo oe c12 hT ⊢
      obtain ⟨b12,hbq⟩ : ∃ p,z5.heap.size = p:=⟨_,rfl⟩
      rw [hbq] at c12 hlb ⊢
      clear hy hbq
      have hSn:=hT
      clear hS
      refine Onward.on hSn (fun hS => ?_)
      try dsimp only at hS
      clear hSn
      try simp only [Act.put,Sp1,Sp2,Sp3,Sp4,Sp5,Sp6]
      refine AnyG.one (i:=10) (by as_aux_lemma => kernel_rfl) rfl rfl ?_
      refine wp_app3 (.tmp 125) (.tmp 129) 51 rfl wr.heap.size 69 i69 _ 3 24 Try.underlying51 hi69 hz69 hs69 iy69 rfl (by decide) (.slice (some ⟨b5,0,none⟩) 0 0) 0 [] (by simp [Act.eval]) oe SA9 n9 sc9 (bdrs BL9) (by simp [Act.eval]) (by rw [bdrs_len,HBL9.out]) (sl_news (hSB9.call (hWr.trans (hS.mono hWr.size))) (by omega) (bdr_len BL9)) (bdrs_cell BL9) (by unfold maxLen; omega) (by omega) hS.size ?_
      intro v30 z10 oi g10 x10 r10
      rw [Nat.zero_add,List.nil_append] at oi
      obtain ⟨IA,ic,rfl⟩:=own_shape oi
      replace ox:=ox.kept g10 (own_ne ox oe (by decide))
      replace oy:=oy.kept g10 (own_ne oy oe (by decide))
      replace bo:=bo.own oe g10 (by decide)
      replace c12:=c12.grown g10 (own_bx oe c12 (by decide))
      have hSn:=hS.grown g10 hS.size (fun q e => (oe.lt q e).1)
      clear hS
      refine Onward.on hSn (fun hS => ?_)
      try dsimp only at hS
      clear hSn
      try simp only [Act.put,Sp1,Sp2,Sp3,Sp4,Sp5,Sp6]
      refine AnyG.castL (L':=#[true,true,true,true,true,true,true,true,true,true,true,true,false,false]) (by as_aux_lemma => kernel_rfl) ?_
      exact tail z10 b12 b5 XA xc YA yc IA ic rs ⟨hS,hlb,c12,ox,oy,bo,oi⟩
    ·refine ⟨_,rfl,rfl,?_⟩
     go_simp
     have c12:=Bx.new y4 27 #[.slice none 0 0,.int .i64 0,.int .i64 0,.slice none 0 0]
     have hlb:=hS.size
     replace ox:=own_bel ox ((Below.refl _ _).alloc (Nat.le_refl _) (.cells #[.slice none 0 0,.int .i64 0,.int .i64 0,.slice none 0 0] 27))
     replace oy:=own_bel oy ((Below.refl _ _).alloc (Nat.le_refl _) (.cells #[.slice none 0 0,.int .i64 0,.int .i64 0,.slice none 0 0] 27))
     replace bo:=bo.bel ((Below.refl _ _).alloc (Nat.le_refl _) (.cells #[.slice none 0 0,.int .i64 0,.int .i64 0,.slice none 0 0] 27))
     have hT:=hS.alloc hS.size (.cells #[.slice none 0 0,.int .i64 0,.int .i64 0,.slice none 0 0] 27)
     obtain ⟨z11,hy⟩ : ∃ x,y4.alloc (.cells #[.slice none 0 0,.int .i64 0,.int .i64 0,.slice none 0 0] 27) = x:=⟨_,rfl⟩
     rw [hy] at ox oy bo c12 hT ⊢
     obtain ⟨b12,hbq⟩ : ∃ p,y4.heap.size = p:=⟨_,rfl⟩
     rw [hbq] at c12 hlb ⊢
     clear hy hbq
     have hSn:=hT
     clear hS
     refine Onward.on hSn (fun hS => ?_)
     try dsimp only at hS
     clear hSn
     try simp only [Act.put,Sp1,Sp2,Sp3,Sp4,Sp5,Sp6]
     refine AnyG.one (i:=5) (by as_aux_lemma => kernel_rfl) rfl rfl ?_
     go_simp
     have oe:=World.ownsRow_made (w:=z11) (base:=wr.heap.size) (e:=69) (size:=3) #[] 0 hS.size (by unfold maxLen; omega) (by simp)
     replace ox:=own_bel ox ((Below.refl _ _).alloc (Nat.le_refl _) (.cells #[] 69))
     replace oy:=own_bel oy ((Below.refl _ _).alloc (Nat.le_refl _) (.cells #[] 69))
     replace bo:=bo.bel ((Below.refl _ _).alloc (Nat.le_refl _) (.cells #[] 69))
     replace c12:=c12.call ((Below.refl _ _).alloc (Nat.le_refl _) (.cells #[] 69))
     have hT:=hS.alloc hS.size (.cells #[] 69)
     obtain ⟨z5,hy⟩ : ∃ x,z11.alloc (.cells #[] 69) = x:=⟨_,rfl⟩
     rw [hy] at ox oy bo c12 oe hT ⊢
     obtain ⟨b5,hbq⟩ : ∃ p,z11.heap.size = p:=⟨_,rfl⟩
     rw [hbq] at oe ⊢
     clear hy hbq
     have hSn:=hT
     clear hS
     refine Onward.on hSn (fun hS => ?_)
     try dsimp only at hS
     clear hSn
     try simp only [Act.put,Sp1,Sp2,Sp3,Sp4,Sp5,Sp6]
     refine AnyG.one (i:=10) (by as_aux_lemma => kernel_rfl) rfl rfl ?_
     refine wp_app3 (.tmp 125) (.tmp 129) 51 rfl wr.heap.size 69 i69 _ 3 24 Try.underlying51 hi69 hz69 hs69 iy69 rfl (by decide) (.slice (some ⟨b5,0,none⟩) 0 0) 0 [] (by simp [Act.eval]) oe SA9 n9 sc9 (bdrs BL9) (by simp [Act.eval]) (by rw [bdrs_len,HBL9.out]) (sl_news (hSB9.call (hWr.trans (hS.mono hWr.size))) (by omega) (bdr_len BL9)) (bdrs_cell BL9) (by unfold maxLen; omega) (by omega) hS.size ?_
     intro v30 z10 oi g10 x10 r10
     rw [Nat.zero_add,List.nil_append] at oi
     obtain ⟨IA,ic,rfl⟩:=own_shape oi
     replace ox:=ox.kept g10 (own_ne ox oe (by decide))
     replace oy:=oy.kept g10 (own_ne oy oe (by decide))
     replace bo:=bo.own oe g10 (by decide)
     replace c12:=c12.grown g10 (own_bx oe c12 (by decide))
     have hSn:=hS.grown g10 hS.size (fun q e => (oe.lt q e).1)
     clear hS
     refine Onward.on hSn (fun hS => ?_)
     try dsimp only at hS
     clear hSn
     try simp only [Act.put,Sp1,Sp2,Sp3,Sp4,Sp5,Sp6]
     refine AnyG.castL (L':=#[true,true,true,true,true,true,true,true,true,true,true,true,false,false]) (by as_aux_lemma => kernel_rfl) ?_
     exact tail z10 b12 b5 XA xc YA yc IA ic rs ⟨hS,hlb,c12,ox,oy,bo,oi⟩
   ·refine ⟨_,rfl,rfl,?_⟩
    go_simp
    have oe:=World.ownsRow_made (w:=y0) (base:=wr.heap.size) (e:=69) (size:=3) #[] 0 hS.size (by unfold maxLen; omega) (by simp)
    have hT:=hS.alloc hS.size (.cells #[] 69)
    obtain ⟨z5,hy⟩ : ∃ x,y0.alloc (.cells #[] 69) = x:=⟨_,rfl⟩
    rw [hy] at oe hT ⊢
    obtain ⟨b5,hbq⟩ : ∃ p,y0.heap.size = p:=⟨_,rfl⟩
    rw [hbq] at oe ⊢
    clear hy hbq
    have hSn:=hT
    clear hS
    refine Onward.on hSn (fun hS => ?_)
    try dsimp only at hS
    clear hSn
    try simp only [Act.put,Sp1,Sp2,Sp3,Sp4,Sp5,Sp6]
    refine AnyG.all (rs:=[4,11]) (by as_aux_lemma => kernel_rfl) (by simp) ?_
    intro ii hii
    simp only [List.mem_cons,List.not_mem_nil,or_false] at hii
    rcases hii with rfl | rfl
    ·refine ⟨_,rfl,rfl,?_⟩
     go_simp
     refine (copyOrder_gen LA9 ln9 lc9 BA9 bn9 bc9 o9 _ HLN9.out HBN9.out (hO9.call (hWr.trans (hS.mono hWr.size))) (by omega) (by omega) HG209.out).mono ?_
     rintro e4 y4 ⟨XA,xc,YA,yc,rs,rfl,ox,oy,bo,hq4⟩
     replace ox:=ownsRow_up (b':=wr.heap.size) ox (fun q e => Nat.le_trans hS.size (ox.lt q e).1)
     replace oy:=ownsRow_up (b':=wr.heap.size) oy (fun q e => Nat.le_trans hS.size (oy.lt q e).1)
     replace bo:=bo.up hS.size
     replace oe:=own_bel oe hq4
     have hSn:=(hS.trans (hq4.mono hS.size))
     clear hS
     refine Onward.on hSn (fun hS => ?_)
     try dsimp only at hS
     clear hSn
     try simp only [Act.put,Sp1,Sp2,Sp3,Sp4,Sp5,Sp6]
     refine AnyG.all (rs:=[10,11]) (by as_aux_lemma => kernel_rfl) (by simp) ?_
     intro ii hii
     simp only [List.mem_cons,List.not_mem_nil,or_false] at hii
     rcases hii with rfl | rfl
     ·refine ⟨_,rfl,rfl,?_⟩
      refine wp_app3 (.tmp 125) (.tmp 129) 51 rfl wr.heap.size 69 i69 _ 3 24 Try.underlying51 hi69 hz69 hs69 iy69 rfl (by decide) (.slice (some ⟨b5,0,none⟩) 0 0) 0 [] (by simp [Act.eval]) oe SA9 n9 sc9 (bdrs BL9) (by simp [Act.eval]) (by rw [bdrs_len,HBL9.out]) (sl_news (hSB9.call (hWr.trans (hS.mono hWr.size))) (by omega) (bdr_len BL9)) (bdrs_cell BL9) (by unfold maxLen; omega) (by omega) hS.size ?_
      intro v30 z10 oi g10 x10 r10
      rw [Nat.zero_add,List.nil_append] at oi
      obtain ⟨IA,ic,rfl⟩:=own_shape oi
      replace ox:=ox.kept g10 (own_ne ox oe (by decide))
      replace oy:=oy.kept g10 (own_ne oy oe (by decide))
      replace bo:=bo.own oe g10 (by decide)
      have hSn:=hS.grown g10 hS.size (fun q e => (oe.lt q e).1)
      clear hS
      refine Onward.on hSn (fun hS => ?_)
      try dsimp only at hS
      clear hSn
      try simp only [Act.put,Sp1,Sp2,Sp3,Sp4,Sp5,Sp6]
      refine AnyG.one (i:=11) (by as_aux_lemma => kernel_rfl) rfl rfl ?_
      go_simp
      have c12:=Bx.new z10 27 #[.slice none 0 0,.int .i64 0,.int .i64 0,.slice none 0 0]
      have hlb:=hS.size
      replace ox:=own_bel ox ((Below.refl _ _).alloc (Nat.le_refl _) (.cells #[.slice none 0 0,.int .i64 0,.int .i64 0,.slice none 0 0] 27))
      replace oy:=own_bel oy ((Below.refl _ _).alloc (Nat.le_refl _) (.cells #[.slice none 0 0,.int .i64 0,.int .i64 0,.slice none 0 0] 27))
      replace bo:=bo.bel ((Below.refl _ _).alloc (Nat.le_refl _) (.cells #[.slice none 0 0,.int .i64 0,.int .i64 0,.slice none 0 0] 27))
      replace oi:=own_bel oi ((Below.refl _ _).alloc (Nat.le_refl _) (.cells #[.slice none 0 0,.int .i64 0,.int .i64 0,.slice none 0 0] 27))
      have hT:=hS.alloc hS.size (.cells #[.slice none 0 0,.int .i64 0,.int .i64 0,.slice none 0 0] 27)
      obtain ⟨z11,hy⟩ : ∃ x,z10.alloc (.cells #[.slice none 0 0,.int .i64 0,.int .i64 0,.slice none 0 0] 27) = x:=⟨_,rfl⟩
      rw [hy] at ox oy bo oi c12 hT ⊢
      obtain ⟨b12,hbq⟩ : ∃ p,z10.heap.size = p:=⟨_,rfl⟩
      rw [hbq] at c12 hlb ⊢
      clear hy hbq
      have hSn:=hT
      clear hS
      refine Onward.on hSn (fun hS => ?_)
      try dsimp only at hS
      clear hSn
      try simp only [Act.put,Sp1,Sp2,Sp3,Sp4,Sp5,Sp6]
      refine AnyG.castL (L':=#[true,true,true,true,true,true,true,true,true,true,true,true,false,false]) (by as_aux_lemma => kernel_rfl) ?_
      exact tail z11 b12 b5 XA xc YA yc IA ic rs ⟨hS,hlb,c12,ox,oy,bo,oi⟩
     ·refine ⟨_,rfl,rfl,?_⟩
      go_simp
      have c12:=Bx.new y4 27 #[.slice none 0 0,.int .i64 0,.int .i64 0,.slice none 0 0]
      have hlb:=hS.size
      replace ox:=own_bel ox ((Below.refl _ _).alloc (Nat.le_refl _) (.cells #[.slice none 0 0,.int .i64 0,.int .i64 0,.slice none 0 0] 27))
      replace oy:=own_bel oy ((Below.refl _ _).alloc (Nat.le_refl _) (.cells #[.slice none 0 0,.int .i64 0,.int .i64 0,.slice none 0 0] 27))
      replace bo:=bo.bel ((Below.refl _ _).alloc (Nat.le_refl _) (.cells #[.slice none 0 0,.int .i64 0,.int .i64 0,.slice none 0 0] 27))
      replace oe:=own_bel oe ((Below.refl _ _).alloc (Nat.le_refl _) (.cells #[.slice none 0 0,.int .i64 0,.int .i64 0,.slice none 0 0] 27))
      have hT:=hS.alloc hS.size (.cells #[.slice none 0 0,.int .i64 0,.int .i64 0,.slice none 0 0] 27)
      obtain ⟨z11,hy⟩ : ∃ x,y4.alloc (.cells #[.slice none 0 0,.int .i64 0,.int .i64 0,.slice none 0 0] 27) = x:=⟨_,rfl⟩
      rw [hy] at ox oy bo oe c12 hT ⊢
      obtain ⟨b12,hbq⟩ : ∃ p,y4.heap.size = p:=⟨_,rfl⟩
      rw [hbq] at c12 hlb ⊢
      clear hy hbq
      have hSn:=hT
      clear hS
      refine Onward.on hSn (fun hS => ?_)
      try dsimp only at hS
      clear hSn
      try simp only [Act.put,Sp1,Sp2,Sp3,Sp4,Sp5,Sp6]
      refine AnyG.one (i:=10) (by as_aux_lemma => kernel_rfl) rfl rfl ?_
      refine wp_app3 (.tmp 125) (.tmp 129) 51 rfl wr.heap.size 69 i69 _ 3 24 Try.underlying51 hi69 hz69 hs69 iy69 rfl (by decide) (.slice (some ⟨b5,0,none⟩) 0 0) 0 [] (by simp [Act.eval]) oe SA9 n9 sc9 (bdrs BL9) (by simp [Act.eval]) (by rw [bdrs_len,HBL9.out]) (sl_news (hSB9.call (hWr.trans (hS.mono hWr.size))) (by omega) (bdr_len BL9)) (bdrs_cell BL9) (by unfold maxLen; omega) (by omega) hS.size ?_
      intro v30 z10 oi g10 x10 r10
      rw [Nat.zero_add,List.nil_append] at oi
      obtain ⟨IA,ic,rfl⟩:=own_shape oi
      replace ox:=ox.kept g10 (own_ne ox oe (by decide))
      replace oy:=oy.kept g10 (own_ne oy oe (by decide))
      replace bo:=bo.own oe g10 (by decide)
      replace c12:=c12.grown g10 (own_bx oe c12 (by decide))
      have hSn:=hS.grown g10 hS.size (fun q e => (oe.lt q e).1)
      clear hS
      refine Onward.on hSn (fun hS => ?_)
      try dsimp only at hS
      clear hSn
      try simp only [Act.put,Sp1,Sp2,Sp3,Sp4,Sp5,Sp6]
      refine AnyG.castL (L':=#[true,true,true,true,true,true,true,true,true,true,true,true,false,false]) (by as_aux_lemma => kernel_rfl) ?_
      exact tail z10 b12 b5 XA xc YA yc IA ic rs ⟨hS,hlb,c12,ox,oy,bo,oi⟩
    ·refine ⟨_,rfl,rfl,?_⟩
     go_simp
     have c12:=Bx.new z5 27 #[.slice none 0 0,.int .i64 0,.int .i64 0,.slice none 0 0]
     have hlb:=hS.size
     replace oe:=own_bel oe ((Below.refl _ _).alloc (Nat.le_refl _) (.cells #[.slice none 0 0,.int .i64 0,.int .i64 0,.slice none 0 0] 27))
     have hT:=hS.alloc hS.size (.cells #[.slice none 0 0,.int .i64 0,.int .i64 0,.slice none 0 0] 27)
     obtain ⟨z11,hy⟩ : ∃ x,z5.alloc (.cells #[.slice none 0 0,.int .i64 0,.int .i64 0,.slice none 0 0] 27) = x:=⟨_,rfl⟩
     rw [hy] at oe c12 hT ⊢
     obtain ⟨b12,hbq⟩ : ∃ p,z5.heap.size = p:=⟨_,rfl⟩
     rw [hbq] at c12 hlb ⊢
     clear hy hbq
     have hSn:=hT
     clear hS
     refine Onward.on hSn (fun hS => ?_)
     try dsimp only at hS
     clear hSn
     try simp only [Act.put,Sp1,Sp2,Sp3,Sp4,Sp5,Sp6]
     refine AnyG.one (i:=4) (by as_aux_lemma => kernel_rfl) rfl rfl ?_
     go_simp
     refine (copyOrder_gen LA9 ln9 lc9 BA9 bn9 bc9 o9 _ HLN9.out HBN9.out (hO9.call (hWr.trans (hS.mono hWr.size))) (by omega) (by omega) HG209.out).mono ?_
     rintro e4 y4 ⟨XA,xc,YA,yc,rs,rfl,ox,oy,bo,hq4⟩
     replace ox:=ownsRow_up (b':=wr.heap.size) ox (fun q e => Nat.le_trans hS.size (ox.lt q e).1)
     replace oy:=ownsRow_up (b':=wr.heap.size) oy (fun q e => Nat.le_trans hS.size (oy.lt q e).1)
     replace bo:=bo.up hS.size
     replace c12:=c12.call hq4
     replace oe:=own_bel oe hq4
     have hSn:=(hS.trans (hq4.mono hS.size))
     clear hS
     refine Onward.on hSn (fun hS => ?_)
     try dsimp only at hS
     clear hSn
     try simp only [Act.put,Sp1,Sp2,Sp3,Sp4,Sp5,Sp6]
     refine AnyG.one (i:=10) (by as_aux_lemma => kernel_rfl) rfl rfl ?_
     refine wp_app3 (.tmp 125) (.tmp 129) 51 rfl wr.heap.size 69 i69 _ 3 24 Try.underlying51 hi69 hz69 hs69 iy69 rfl (by decide) (.slice (some ⟨b5,0,none⟩) 0 0) 0 [] (by simp [Act.eval]) oe SA9 n9 sc9 (bdrs BL9) (by simp [Act.eval]) (by rw [bdrs_len,HBL9.out]) (sl_news (hSB9.call (hWr.trans (hS.mono hWr.size))) (by omega) (bdr_len BL9)) (bdrs_cell BL9) (by unfold maxLen; omega) (by omega) hS.size ?_
     intro v30 z10 oi g10 x10 r10
     rw [Nat.zero_add,List.nil_append] at oi
     obtain ⟨IA,ic,rfl⟩:=own_shape oi
     replace ox:=ox.kept g10 (own_ne ox oe (by decide))
     replace oy:=oy.kept g10 (own_ne oy oe (by decide))
     replace bo:=bo.own oe g10 (by decide)
     replace c12:=c12.grown g10 (own_bx oe c12 (by decide))
     have hSn:=hS.grown g10 hS.size (fun q e => (oe.lt q e).1)
     clear hS
     refine Onward.on hSn (fun hS => ?_)
     try dsimp only at hS
     clear hSn
     try simp only [Act.put,Sp1,Sp2,Sp3,Sp4,Sp5,Sp6]
     refine AnyG.castL (L':=#[true,true,true,true,true,true,true,true,true,true,true,true,false,false]) (by as_aux_lemma => kernel_rfl) ?_
     exact tail z10 b12 b5 XA xc YA yc IA ic rs ⟨hS,hlb,c12,ox,oy,bo,oi⟩
   ·refine ⟨_,rfl,rfl,?_⟩
    go_simp
    have c12:=Bx.new y0 27 #[.slice none 0 0,.int .i64 0,.int .i64 0,.slice none 0 0]
    have hlb:=hS.size
    have hT:=hS.alloc hS.size (.cells #[.slice none 0 0,.int .i64 0,.int .i64 0,.slice none 0 0] 27)
    obtain ⟨z11,hy⟩ : ∃ x,y0.alloc (.cells #[.slice none 0 0,.int .i64 0,.int .i64 0,.slice none 0 0] 27) = x:=⟨_,rfl⟩
    rw [hy] at c12 hT ⊢
    obtain ⟨b12,hbq⟩ : ∃ p,y0.heap.size = p:=⟨_,rfl⟩
    rw [hbq] at c12 hlb ⊢
    clear hy hbq
    have hSn:=hT
    clear hS
    refine Onward.on hSn (fun hS => ?_)
    try dsimp only at hS
    clear hSn
    try simp only [Act.put,Sp1,Sp2,Sp3,Sp4,Sp5,Sp6]
    refine AnyG.all (rs:=[4,5]) (by as_aux_lemma => kernel_rfl) (by simp) ?_
    intro ii hii
    simp only [List.mem_cons,List.not_mem_nil,or_false] at hii
    rcases hii with rfl | rfl
    ·refine ⟨_,rfl,rfl,?_⟩
     go_simp
     refine (copyOrder_gen LA9 ln9 lc9 BA9 bn9 bc9 o9 _ HLN9.out HBN9.out (hO9.call (hWr.trans (hS.mono hWr.size))) (by omega) (by omega) HG209.out).mono ?_
     rintro e4 y4 ⟨XA,xc,YA,yc,rs,rfl,ox,oy,bo,hq4⟩
     replace ox:=ownsRow_up (b':=wr.heap.size) ox (fun q e => Nat.le_trans hS.size (ox.lt q e).1)
     replace oy:=ownsRow_up (b':=wr.heap.size) oy (fun q e => Nat.le_trans hS.size (oy.lt q e).1)
     replace bo:=bo.up hS.size
     replace c12:=c12.call hq4
     have hSn:=(hS.trans (hq4.mono hS.size))
     clear hS
     refine Onward.on hSn (fun hS => ?_)
     try dsimp only at hS
     clear hSn
     try simp only [Act.put,Sp1,Sp2,Sp3,Sp4,Sp5,Sp6]
     refine AnyG.one (i:=5) (by as_aux_lemma => kernel_rfl) rfl rfl ?_
     go_simp
     have oe:=World.ownsRow_made (w:=y4) (base:=wr.heap.size) (e:=69) (size:=3) #[] 0 hS.size (by unfold maxLen; omega) (by simp)
     replace ox:=own_bel ox ((Below.refl _ _).alloc (Nat.le_refl _) (.cells #[] 69))
     replace oy:=own_bel oy ((Below.refl _ _).alloc (Nat.le_refl _) (.cells #[] 69))
     replace bo:=bo.bel ((Below.refl _ _).alloc (Nat.le_refl _) (.cells #[] 69))
     replace c12:=c12.call ((Below.refl _ _).alloc (Nat.le_refl _) (.cells #[] 69))
     have hT:=hS.alloc hS.size (.cells #[] 69)
     obtain ⟨z5,hy⟩ : ∃ x,y4.alloc (.cells #[] 69) = x:=⟨_,rfl⟩
     rw [hy] at ox oy bo c12 oe hT ⊢
     obtain ⟨b5,hbq⟩ : ∃ p,y4.heap.size = p:=⟨_,rfl⟩
     rw [hbq] at oe ⊢
     clear hy hbq
     have hSn:=hT
     clear hS
     refine Onward.on hSn (fun hS => ?_)
     try dsimp only at hS
     clear hSn
     try simp only [Act.put,Sp1,Sp2,Sp3,Sp4,Sp5,Sp6]
     refine AnyG.one (i:=10) (by as_aux_lemma => kernel_rfl) rfl rfl ?_
     refine wp_app3 (.tmp 125) (.tmp 129) 51 rfl wr.heap.size 69 i69 _ 3 24 Try.underlying51 hi69 hz69 hs69 iy69 rfl (by decide) (.slice (some ⟨b5,0,none⟩) 0 0) 0 [] (by simp [Act.eval]) oe SA9 n9 sc9 (bdrs BL9) (by simp [Act.eval]) (by rw [bdrs_len,HBL9.out]) (sl_news (hSB9.call (hWr.trans (hS.mono hWr.size))) (by omega) (bdr_len BL9)) (bdrs_cell BL9) (by unfold maxLen; omega) (by omega) hS.size ?_
     intro v30 z10 oi g10 x10 r10
     rw [Nat.zero_add,List.nil_append] at oi
     obtain ⟨IA,ic,rfl⟩:=own_shape oi
     replace ox:=ox.kept g10 (own_ne ox oe (by decide))
     replace oy:=oy.kept g10 (own_ne oy oe (by decide))
     replace bo:=bo.own oe g10 (by decide)
     replace c12:=c12.grown g10 (own_bx oe c12 (by decide))
     have hSn:=hS.grown g10 hS.size (fun q e => (oe.lt q e).1)
     clear hS
     refine Onward.on hSn (fun hS => ?_)
     try dsimp only at hS
     clear hSn
     try simp only [Act.put,Sp1,Sp2,Sp3,Sp4,Sp5,Sp6]
     refine AnyG.castL (L':=#[true,true,true,true,true,true,true,true,true,true,true,true,false,false]) (by as_aux_lemma => kernel_rfl) ?_
     exact tail z10 b12 b5 XA xc YA yc IA ic rs ⟨hS,hlb,c12,ox,oy,bo,oi⟩
    ·refine ⟨_,rfl,rfl,?_⟩
     go_simp
     have oe:=World.ownsRow_made (w:=z11) (base:=wr.heap.size) (e:=69) (size:=3) #[] 0 hS.size (by unfold maxLen; omega) (by simp)
     replace c12:=c12.call ((Below.refl _ _).alloc (Nat.le_refl _) (.cells #[] 69))
     have hT:=hS.alloc hS.size (.cells #[] 69)
     obtain ⟨z5,hy⟩ : ∃ x,z11.alloc (.cells #[] 69) = x:=⟨_,rfl⟩
     rw [hy] at c12 oe hT ⊢
     obtain ⟨b5,hbq⟩ : ∃ p,z11.heap.size = p:=⟨_,rfl⟩
     rw [hbq] at oe ⊢
     clear hy hbq
     have hSn:=hT
     clear hS
     refine Onward.on hSn (fun hS => ?_)
     try dsimp only at hS
     clear hSn
     try simp only [Act.put,Sp1,Sp2,Sp3,Sp4,Sp5,Sp6]
     refine AnyG.one (i:=4) (by as_aux_lemma => kernel_rfl) rfl rfl ?_
     go_simp
     refine (copyOrder_gen LA9 ln9 lc9 BA9 bn9 bc9 o9 _ HLN9.out HBN9.out (hO9.call (hWr.trans (hS.mono hWr.size))) (by omega) (by omega) HG209.out).mono ?_
     rintro e4 y4 ⟨XA,xc,YA,yc,rs,rfl,ox,oy,bo,hq4⟩
     replace ox:=ownsRow_up (b':=wr.heap.size) ox (fun q e => Nat.le_trans hS.size (ox.lt q e).1)
     replace oy:=ownsRow_up (b':=wr.heap.size) oy (fun q e => Nat.le_trans hS.size (oy.lt q e).1)
     replace bo:=bo.up hS.size
     replace c12:=c12.call hq4
     replace oe:=own_bel oe hq4
     have hSn:=(hS.trans (hq4.mono hS.size))
     clear hS
     refine Onward.on hSn (fun hS => ?_)
     try dsimp only at hS
     clear hSn
     try simp only [Act.put,Sp1,Sp2,Sp3,Sp4,Sp5,Sp6]
     refine AnyG.one (i:=10) (by as_aux_lemma => kernel_rfl) rfl rfl ?_
     refine wp_app3 (.tmp 125) (.tmp 129) 51 rfl wr.heap.size 69 i69 _ 3 24 Try.underlying51 hi69 hz69 hs69 iy69 rfl (by decide) (.slice (some ⟨b5,0,none⟩) 0 0) 0 [] (by simp [Act.eval]) oe SA9 n9 sc9 (bdrs BL9) (by simp [Act.eval]) (by rw [bdrs_len,HBL9.out]) (sl_news (hSB9.call (hWr.trans (hS.mono hWr.size))) (by omega) (bdr_len BL9)) (bdrs_cell BL9) (by unfold maxLen; omega) (by omega) hS.size ?_
     intro v30 z10 oi g10 x10 r10
     rw [Nat.zero_add,List.nil_append] at oi
     obtain ⟨IA,ic,rfl⟩:=own_shape oi
     replace ox:=ox.kept g10 (own_ne ox oe (by decide))
     replace oy:=oy.kept g10 (own_ne oy oe (by decide))
     replace bo:=bo.own oe g10 (by decide)
     replace c12:=c12.grown g10 (own_bx oe c12 (by decide))
     have hSn:=hS.grown g10 hS.size (fun q e => (oe.lt q e).1)
     clear hS
     refine Onward.on hSn (fun hS => ?_)
     try dsimp only at hS
     clear hSn
     try simp only [Act.put,Sp1,Sp2,Sp3,Sp4,Sp5,Sp6]
     refine AnyG.castL (L':=#[true,true,true,true,true,true,true,true,true,true,true,true,false,false]) (by as_aux_lemma => kernel_rfl) ?_
     exact tail z10 b12 b5 XA xc YA yc IA ic rs ⟨hS,hlb,c12,ox,oy,bo,oi⟩
  case tail =>
   rintro y b12 b5 XA xc YA yc IA ic rs ⟨hS,hlb,c12,ox,oy,bo,oi⟩
   refine AnyG.one (i:=12) (by as_aux_lemma => kernel_rfl) rfl rfl ?_
   obtain ⟨s0,s1,s2,s3,sf,sz⟩:=c12.four
   have hSa:=hS
   go_simp
   clear s0 s1 s2 s3 sf sz
   refine Onward.last rfl ?_
   try simp only [Act.put,Sp1,Sp2,Sp3,Sp4,Sp5,Sp6]
   refine AnyG.one (i:=13) (by as_aux_lemma => kernel_rfl) rfl rfl ?_
   go_simp
   refine Onward.last rfl ?_
   try simp only [Act.put,Sp1,Sp2,Sp3,Sp4,Sp5,Sp6]
   refine AnyG.done (by as_aux_lemma => kernel_rfl) ?_ _
   have hXO:=copy_put c12 ox oy bo HLN9.out HBN9.out
   have kX:=c12.set4 (.slice XA ln9 xc) (.int .i64 o9.le) (.int .i64 o9.mo) (.slice YA bn9 yc)
   have hI:=bds_put c12 oi HBL9.out (.slice XA ln9 xc) (.int .i64 o9.le) (.int .i64 o9.mo) (.slice YA bn9 yc)
   have hic:=own_le oi
   have hWz:=below4 (hWr.trans (hSa.mono hWr.size)) (b:=b12) (by have:=hWr.size; omega) (.slice XA ln9 xc) (.int .i64 o9.le) (.int .i64 o9.mo) (.slice YA bn9 yc)
   go_simp
   go_wp2_with fail
   go_meet
   exact ⟨b12,XA,xc,YA,yc,IA,ic,rfl,rfl,hic,kX,hXO,hI,hWz⟩
 case rest =>
  obtain ⟨b12,XA,xc,YA,yc,IA,ic,rfl,rfl,hic,kX,hXO,hI,hX⟩:=hcut
  obtain ⟨X0,hX0⟩ : ∃ X,X = wc:=⟨_,rfl⟩
  subst hX0
  clear hWr
  go_wp2_with fail
  refine AnyG.startC (by as_aux_lemma => kernel_rfl) ?_
  refine AnyG.takeP (i:=1) (v:=?_) rfl (by as_aux_lemma => kernel_rfl) (fun _ _ _ h => h) rfl ?_ ?_
  rotate_left
  ·(intro w'; go_simp; try with_reducible rfl)
  try simp only [Act.put,Sp1,Sp2,Sp3,Sp4,Sp5,Sp6]
  refine AnyG.takeP (i:=2) (v:=?_) rfl (by as_aux_lemma => kernel_rfl) (fun _ _ _ h => h) rfl ?_ ?_
  rotate_left
  ·(intro w'; go_simp; try with_reducible rfl)
  try simp only [Act.put,Sp1,Sp2,Sp3,Sp4,Sp5,Sp6]
  refine AnyG.takeP (i:=3) (v:=?_) rfl (by as_aux_lemma => kernel_rfl) (fun _ _ _ h => h) rfl ?_ ?_
  rotate_left
  ·(intro w'; go_simp; try with_reducible rfl)
  try simp only [Act.put,Sp1,Sp2,Sp3,Sp4,Sp5,Sp6]
  refine AnyG.enter (fun w' : World => Below X0.heap.size X0 w') (fun i => true) ?_
  have hS : (fun w' : World => Below X0.heap.size X0 w') (World.drew _):=(Below.refl _ _).drew
  refine AnyG.takeC (i:=0) (v:=?_) rfl (by as_aux_lemma => kernel_rfl) (fun _ _ _ h => h) rfl ?_ hS ?_
  rotate_left
  ·(intro w' hSw; (try dsimp only at hSw); obtain ⟨t0,t1,t2,t3,tf,tz⟩:=(kX.call hSw).four; go_simp; try with_reducible rfl)
  try simp only [Act.put,Sp1,Sp2,Sp3,Sp4,Sp5,Sp6]
  refine AnyG.takeC (i:=4) (v:=?_) rfl (by as_aux_lemma => kernel_rfl) (fun _ _ _ h => h) rfl ?_ hS ?_
  rotate_left
  ·(intro w' hSw; (try dsimp only at hSw); have rp:=HQP.out _ (hX.trans (hSw.mono hX.size)); go_simp; try with_reducible rfl)
  try simp only [Act.put,Sp1,Sp2,Sp3,Sp4,Sp5,Sp6]
  refine AnyG.one (i:=5) (by as_aux_lemma => kernel_rfl) rfl rfl ?_
  go_simp
  refine (prove_any XA ln9 xc YA bn9 yc o9 p9 _ (by omega) (by omega) HLN9.out HBN9.out (hXO.call hS) HG19.out).mono ?_
  rintro e5 Y1 ⟨⟨A5,c5,rfl,hp5,-⟩,hb5⟩
  refine Onward.on (hS.trans (hb5.mono hS.size)) (fun hS2 => ?_)
  clear hS
  have hS:=hS2
  clear hS2
  try simp only [Act.put,Sp1,Sp2,Sp3,Sp4,Sp5,Sp6]
  refine AnyG.takeC (i:=6) (v:=?_) rfl (by as_aux_lemma => kernel_rfl) (fun _ _ _ h => h) rfl ?_ hS ?_
  rotate_left
  ·(intro w' hSw; (try dsimp only at hSw); go_simp; try with_reducible rfl)
  try simp only [Act.put,Sp1,Sp2,Sp3,Sp4,Sp5,Sp6]
  refine AnyG.takeC (i:=7) (v:=?_) rfl (by as_aux_lemma => kernel_rfl) (fun _ _ _ h => h) rfl ?_ hS ?_
  rotate_left
  ·(intro w' hSw; (try dsimp only at hSw); go_simp; try with_reducible rfl)
  try simp only [Act.put,Sp1,Sp2,Sp3,Sp4,Sp5,Sp6]
  refine AnyG.takeC (i:=8) (v:=?_) rfl (by as_aux_lemma => kernel_rfl) (fun _ _ _ h => h) rfl ?_ hS ?_
  rotate_left
  ·(intro w' hSw; (try dsimp only at hSw); go_simp; try with_reducible rfl)
  try simp only [Act.put,Sp1,Sp2,Sp3,Sp4,Sp5,Sp6]
  refine AnyG.takeC (i:=9) (v:=?_) rfl (by as_aux_lemma => kernel_rfl) (fun _ _ _ h => h) rfl ?_ hS ?_
  rotate_left
  ·(intro w' hSw; (try dsimp only at hSw); go_simp; try with_reducible rfl)
  try simp only [Act.put,Sp1,Sp2,Sp3,Sp4,Sp5,Sp6]
  refine AnyG.takeC (i:=10) (v:=?_) rfl (by as_aux_lemma => kernel_rfl) (fun _ _ _ h => h) rfl ?_ hS ?_
  rotate_left
  ·(intro w' hSw; (try dsimp only at hSw); go_simp; try with_reducible rfl)
  try simp only [Act.put,Sp1,Sp2,Sp3,Sp4,Sp5,Sp6]
  refine AnyG.done (by as_aux_lemma => kernel_rfl) ?_ _
  have hXY : Below X0.heap.size X0 Y1:=hS
  clear hS
  go_simp
  replace kX:=kX.call hXY
  replace hXO:=hXO.call hXY
  replace hI:=hI.call hXY
  replace hX:=hX.trans (hXY.mono hX.size)
  clear hXY hb5
  go_wp2_with fail
  refine AnyG.startC (by as_aux_lemma => kernel_rfl) ?_
  refine AnyG.takeP (i:=0) (v:=?_) rfl (by as_aux_lemma => kernel_rfl) (fun _ _ _ h => h) rfl ?_ ?_
  rotate_left
  ·(intro w'; go_simp; try with_reducible rfl)
  try simp only [Act.put,Sp1,Sp2,Sp3,Sp4,Sp5,Sp6]
  refine AnyG.takeP (i:=1) (v:=?_) rfl (by as_aux_lemma => kernel_rfl) (fun _ _ _ h => h) rfl ?_ ?_
  rotate_left
  ·(intro w'; go_simp; try with_reducible rfl)
  try simp only [Act.put,Sp1,Sp2,Sp3,Sp4,Sp5,Sp6]
  refine AnyG.takeP (i:=2) (v:=?_) rfl (by as_aux_lemma => kernel_rfl) (fun _ _ _ h => h) rfl ?_ ?_
  rotate_left
  ·(intro w'; go_simp; try with_reducible rfl)
  try simp only [Act.put,Sp1,Sp2,Sp3,Sp4,Sp5,Sp6]
  refine AnyG.takeP (i:=4) (v:=?_) rfl (by as_aux_lemma => kernel_rfl) (fun _ _ _ h => h) rfl ?_ ?_
  rotate_left
  ·(intro w'; go_simp; try with_reducible rfl)
  try simp only [Act.put,Sp1,Sp2,Sp3,Sp4,Sp5,Sp6]
  refine AnyG.takeP (i:=5) (v:=?_) rfl (by as_aux_lemma => kernel_rfl) (fun _ _ _ h => h) rfl ?_ ?_
  rotate_left
  ·(intro w'; go_simp; try with_reducible rfl)
  try simp only [Act.put,Sp1,Sp2,Sp3,Sp4,Sp5,Sp6]
  refine AnyG.takeP (i:=6) (v:=?_) rfl (by as_aux_lemma => kernel_rfl) (fun _ _ _ h => h) rfl ?_ ?_
  rotate_left
  ·(intro w'; go_simp; try with_reducible rfl)
  try simp only [Act.put,Sp1,Sp2,Sp3,Sp4,Sp5,Sp6]
  refine AnyG.enter (fun w' : World => Below Y1.heap.size Y1 w') (fun i => true) ?_
  have hS : (fun w' : World => Below Y1.heap.size Y1 w') (World.drew _):=(Below.refl _ _).drew
  refine AnyG.takeC (i:=3) (v:=?_) rfl (by as_aux_lemma => kernel_rfl) (fun _ _ _ h => h) rfl ?_ hS ?_
  rotate_left
  ·(intro w' hSw; (try dsimp only at hSw); obtain ⟨q0,q1,q2,q3⟩:=HQO.out _ (hX.trans (hSw.mono hX.size)); go_simp; try with_reducible rfl)
  try simp only [Act.put,Sp1,Sp2,Sp3,Sp4,Sp5,Sp6]
  refine AnyG.takeC (i:=7) (v:=?_) rfl (by as_aux_lemma => kernel_rfl) (fun _ _ _ h => h) rfl ?_ hS ?_
  rotate_left
  ·(intro w' hSw; (try dsimp only at hSw); have rp:=HQP.out _ (hX.trans (hSw.mono hX.size)); go_simp; try with_reducible rfl)
  try simp only [Act.put,Sp1,Sp2,Sp3,Sp4,Sp5,Sp6]
  refine AnyG.one (i:=8) (by as_aux_lemma => kernel_rfl) rfl rfl ?_
  go_simp
  refine (refProve_any LA9 ln9 lc9 BA9 bn9 bc9 o9 p9 _ (by omega) (by omega) HLN9.out HBN9.out (hO9.call (hX.trans (hS.mono hX.size))) HG19.out).mono ?_
  rintro e8 Y2 ⟨⟨A8,c8,rfl,hp8,-⟩,hb8⟩
  refine Onward.on (hS.trans (hb8.mono hS.size)) (fun hS2 => ?_)
  clear hS
  have hS:=hS2
  clear hS2
  try simp only [Act.put,Sp1,Sp2,Sp3,Sp4,Sp5,Sp6]
  refine AnyG.takeC (i:=9) (v:=?_) rfl (by as_aux_lemma => kernel_rfl) (fun _ _ _ h => h) rfl ?_ hS ?_
  rotate_left
  ·(intro w' hSw; (try dsimp only at hSw); go_simp; try with_reducible rfl)
  try simp only [Act.put,Sp1,Sp2,Sp3,Sp4,Sp5,Sp6]
  refine AnyG.takeC (i:=10) (v:=?_) rfl (by as_aux_lemma => kernel_rfl) (fun _ _ _ h => h) rfl ?_ hS ?_
  rotate_left
  ·(intro w' hSw; (try dsimp only at hSw); go_simp; try with_reducible rfl)
  try simp only [Act.put,Sp1,Sp2,Sp3,Sp4,Sp5,Sp6]
  refine AnyG.takeC (i:=11) (v:=?_) rfl (by as_aux_lemma => kernel_rfl) (fun _ _ _ h => h) rfl ?_ hS ?_
  rotate_left
  ·(intro w' hSw; (try dsimp only at hSw); go_simp; try with_reducible rfl)
  try simp only [Act.put,Sp1,Sp2,Sp3,Sp4,Sp5,Sp6]
  refine AnyG.takeC (i:=12) (v:=?_) rfl (by as_aux_lemma => kernel_rfl) (fun _ _ _ h => h) rfl ?_ hS ?_
  rotate_left
  ·(intro w' hSw; (try dsimp only at hSw); go_simp; try with_reducible rfl)
  try simp only [Act.put,Sp1,Sp2,Sp3,Sp4,Sp5,Sp6]
  refine AnyG.takeC (i:=13) (v:=?_) rfl (by as_aux_lemma => kernel_rfl) (fun _ _ _ h => h) rfl ?_ hS ?_
  rotate_left
  ·(intro w' hSw; (try dsimp only at hSw); go_simp; try with_reducible rfl)
  try simp only [Act.put,Sp1,Sp2,Sp3,Sp4,Sp5,Sp6]
  refine AnyG.done (by as_aux_lemma => kernel_rfl) ?_ _
  have hXY : Below Y1.heap.size Y1 Y2:=hS
  clear hS
  go_simp
  replace kX:=kX.call hXY
  replace hXO:=hXO.call hXY
  replace hI:=hI.call hXY
  replace hp5:=hp5.call hXY
  replace hX:=hX.trans (hXY.mono hX.size)
  clear hXY hb8
  have hlq:=prvA_len (o:=o9) (p:=p9)
  obtain ⟨QL,hQL⟩ : ∃ l,(prvA o9 p9).1 = l:=⟨_,rfl⟩
  obtain ⟨qe,hqe⟩ : ∃ l,(prvA o9 p9).2 = l:=⟨_,rfl⟩
  rw [hQL] at hp5 hp8 hlq ⊢
  rw [hqe]
  obtain ⟨qn,hqn⟩ : ∃ k,QL.length = k:=⟨_,rfl⟩
  rw [hqn] at hlq ⊢
  have HQN:=Lib.hid hqn
  clear hQL hqe hqn
  obtain ⟨vv,hvv⟩ : ∃ x,vrfA o9 p9 BL9 = x:=⟨_,rfl⟩
  have HVV:=Lib.hid hvv
  clear hvv
  go_wp2_with fail
  refine AnyG.startC (by as_aux_lemma => kernel_rfl) ?_
  refine AnyG.takeP (i:=0) (v:=?_) rfl (by as_aux_lemma => kernel_rfl) (fun _ _ _ h => h) rfl ?_ ?_
  rotate_left
  ·(intro w'; go_simp; try with_reducible rfl)
  try simp only [Act.put,Sp1,Sp2,Sp3,Sp4,Sp5,Sp6]
  refine AnyG.takeP (i:=1) (v:=?_) rfl (by as_aux_lemma => kernel_rfl) (fun _ _ _ h => h) rfl ?_ ?_
  rotate_left
  ·(intro w'; go_simp; try with_reducible rfl)
  try simp only [Act.put,Sp1,Sp2,Sp3,Sp4,Sp5,Sp6]
  refine AnyG.takeP (i:=2) (v:=?_) rfl (by as_aux_lemma => kernel_rfl) (fun _ _ _ h => h) rfl ?_ ?_
  rotate_left
  ·(intro w'; go_simp; try with_reducible rfl)
  try simp only [Act.put,Sp1,Sp2,Sp3,Sp4,Sp5,Sp6]
  refine AnyG.takeP (i:=3) (v:=?_) rfl (by as_aux_lemma => kernel_rfl) (fun _ _ _ h => h) rfl ?_ ?_
  rotate_left
  ·(intro w'; go_simp; try with_reducible rfl)
  try simp only [Act.put,Sp1,Sp2,Sp3,Sp4,Sp5,Sp6]
  refine AnyG.enter (fun w' : World => Below Y2.heap.size Y2 w') (fun i => true) ?_
  have hS : (fun w' : World => Below Y2.heap.size Y2 w') (World.drew _):=(Below.refl _ _).drew
  refine AnyG.takeGC (i:=4) (v:=?_) rfl (by as_aux_lemma => kernel_rfl) (fun _ _ _ h => h) (by first | (simp [Region.wanted,yielded]; done) | simp [Region.wanted,yielded,undef]) ?_ hS ?_
  rotate_left
  ·(intro w' hSw; (try dsimp only at hSw); go_simp; try with_reducible rfl)
  try simp only [Act.put,Sp1,Sp2,Sp3,Sp4,Sp5,Sp6]
  refine AnyG.takeGC (i:=5) (v:=?_) rfl (by as_aux_lemma => kernel_rfl) (fun _ _ _ h => h) (by first | (simp [Region.wanted,yielded]; done) | simp [Region.wanted,yielded,undef]) ?_ hS ?_
  rotate_left
  ·(intro w' hSw; (try dsimp only at hSw); go_simp; try with_reducible rfl)
  try simp only [Act.put,Sp1,Sp2,Sp3,Sp4,Sp5,Sp6]
  refine AnyG.oneC (i:=6) (by as_aux_lemma => kernel_rfl) rfl (by first | (simp [Region.wanted,yielded]; done) | simp [Region.wanted,yielded,undef]) ?_
  go_simp
  refine (equalProofs_any A5 qn c5 A8 qn c8 QL QL _ (by omega) (by omega) HQN.out HQN.out (hp5.call hS) (hp8.call hS)).mono ?_
  rintro e6 y6 ⟨rfl,hb6⟩
  rw [show decide (QL = QL) = true by simp]
  refine Onward.on (hS.trans (hb6.mono hS.size)) (fun hS2 => ?_)
  clear hS
  have hS:=hS2
  clear hS2
  try simp only [Act.put,Sp1,Sp2,Sp3,Sp4,Sp5,Sp6]
  refine AnyG.takeGC (i:=7) (v:=?_) rfl (by as_aux_lemma => kernel_rfl) (fun _ _ _ h => h) (by first | (simp [Region.wanted,yielded]; done) | simp [Region.wanted,yielded,undef]) ?_ hS ?_
  rotate_left
  ·(intro w' hSw; (try dsimp only at hSw); go_simp; try with_reducible rfl)
  try simp only [Act.put,Sp1,Sp2,Sp3,Sp4,Sp5,Sp6]
  refine AnyG.takeC (i:=8) (v:=?_) rfl (by as_aux_lemma => kernel_rfl) (fun _ _ _ h => h) rfl ?_ hS ?_
  rotate_left
  ·(intro w' hSw; (try dsimp only at hSw); go_simp; try with_reducible rfl)
  try simp only [Act.put,Sp1,Sp2,Sp3,Sp4,Sp5,Sp6]
  refine AnyG.takeC (i:=9) (v:=?_) rfl (by as_aux_lemma => kernel_rfl) (fun _ _ _ h => h) rfl ?_ hS ?_
  rotate_left
  ·(intro w' hSw; (try dsimp only at hSw); go_simp; try with_reducible rfl)
  try simp only [Act.put,Sp1,Sp2,Sp3,Sp4,Sp5,Sp6]
  refine AnyG.takeGC (i:=10) (v:=?_) rfl (by as_aux_lemma => kernel_rfl) (fun _ _ _ h => h) (by first | (simp [Region.wanted,yielded]; done) | simp [Region.wanted,yielded,undef]) ?_ hS ?_
  rotate_left
  ·(intro w' hSw; (try dsimp only at hSw); obtain ⟨t0,t1,t2,t3,tf,tz⟩:=(kX.call hSw).four; go_simp; try with_reducible rfl)
  try simp only [Act.put,Sp1,Sp2,Sp3,Sp4,Sp5,Sp6]
  refine AnyG.takeGC (i:=11) (v:=?_) rfl (by as_aux_lemma => kernel_rfl) (fun _ _ _ h => h) (by first | (simp [Region.wanted,yielded]; done) | simp [Region.wanted,yielded,undef]) ?_ hS ?_
  rotate_left
  ·(intro w' hSw; (try dsimp only at hSw); go_simp; try with_reducible rfl)
  try simp only [Act.put,Sp1,Sp2,Sp3,Sp4,Sp5,Sp6]
  refine AnyG.takeGC (i:=12) (v:=?_) rfl (by as_aux_lemma => kernel_rfl) (fun _ _ _ h => h) (by first | (simp [Region.wanted,yielded]; done) | simp [Region.wanted,yielded,undef]) ?_ hS ?_
  rotate_left
  ·(intro w' hSw; (try dsimp only at hSw); go_simp; try with_reducible rfl)
  try simp only [Act.put,Sp1,Sp2,Sp3,Sp4,Sp5,Sp6]
  refine AnyG.takeGC (i:=13) (v:=?_) rfl (by as_aux_lemma => kernel_rfl) (fun _ _ _ h => h) (by first | (simp [Region.wanted,yielded]; done) | simp [Region.wanted,yielded,undef]) ?_ hS ?_
  rotate_left
  ·(intro w' hSw; (try dsimp only at hSw); go_simp; try with_reducible rfl)
  try simp only [Act.put,Sp1,Sp2,Sp3,Sp4,Sp5,Sp6]
  refine AnyG.takeGC (i:=14) (v:=?_) rfl (by as_aux_lemma => kernel_rfl) (fun _ _ _ h => h) (by first | (simp [Region.wanted,yielded]; done) | simp [Region.wanted,yielded,undef]) ?_ hS ?_
  rotate_left
  ·(intro w' hSw; (try dsimp only at hSw); have rp:=HQP.out _ (hX.trans (hSw.mono hX.size)); go_simp; try with_reducible rfl)
  try simp only [Act.put,Sp1,Sp2,Sp3,Sp4,Sp5,Sp6]
  refine AnyG.takeGC (i:=15) (v:=?_) rfl (by as_aux_lemma => kernel_rfl) (fun _ _ _ h => h) (by first | (simp [Region.wanted,yielded]; done) | simp [Region.wanted,yielded,undef]) ?_ hS ?_
  rotate_left
  ·(intro w' hSw; (try dsimp only at hSw); go_simp; try with_reducible rfl)
  try simp only [Act.put,Sp1,Sp2,Sp3,Sp4,Sp5,Sp6]
  refine AnyG.takeGC (i:=17) (v:=?_) rfl (by as_aux_lemma => kernel_rfl) (fun _ _ _ h => h) (by first | (simp [Region.wanted,yielded]; done) | simp [Region.wanted,yielded,undef]) ?_ hS ?_
  rotate_left
  ·(intro w' hSw; (try dsimp only at hSw); go_simp; try with_reducible rfl)
  try simp only [Act.put,Sp1,Sp2,Sp3,Sp4,Sp5,Sp6]
  refine AnyG.takeGC (i:=18) (v:=?_) rfl (by as_aux_lemma => kernel_rfl) (fun _ _ _ h => h) (by first | (simp [Region.wanted,yielded]; done) | simp [Region.wanted,yielded,undef]) ?_ hS ?_
  rotate_left
  ·(intro w' hSw; (try dsimp only at hSw); go_simp; try with_reducible rfl)
  try simp only [Act.put,Sp1,Sp2,Sp3,Sp4,Sp5,Sp6]
  refine AnyG.takeGC (i:=19) (v:=?_) rfl (by as_aux_lemma => kernel_rfl) (fun _ _ _ h => h) (by first | (simp [Region.wanted,yielded]; done) | simp [Region.wanted,yielded,undef]) ?_ hS ?_
  rotate_left
  ·(intro w' hSw; (try dsimp only at hSw); go_simp; try with_reducible rfl)
  try simp only [Act.put,Sp1,Sp2,Sp3,Sp4,Sp5,Sp6]
  refine AnyG.takeGC (i:=20) (v:=?_) rfl (by as_aux_lemma => kernel_rfl) (fun _ _ _ h => h) (by first | (simp [Region.wanted,yielded]; done) | simp [Region.wanted,yielded,undef]) ?_ hS ?_
  rotate_left
  ·(intro w' hSw; (try dsimp only at hSw); obtain ⟨q0,q1,q2,q3⟩:=HQO.out _ (hX.trans (hSw.mono hX.size)); go_simp; try with_reducible rfl)
  try simp only [Act.put,Sp1,Sp2,Sp3,Sp4,Sp5,Sp6]
  refine AnyG.takeGC (i:=21) (v:=?_) rfl (by as_aux_lemma => kernel_rfl) (fun _ _ _ h => h) (by first | (simp [Region.wanted,yielded]; done) | simp [Region.wanted,yielded,undef]) ?_ hS ?_
  rotate_left
  ·(intro w' hSw; (try dsimp only at hSw); go_simp; try with_reducible rfl)
  try simp only [Act.put,Sp1,Sp2,Sp3,Sp4,Sp5,Sp6]
  refine AnyG.takeGC (i:=22) (v:=?_) rfl (by as_aux_lemma => kernel_rfl) (fun _ _ _ h => h) (by first | (simp [Region.wanted,yielded]; done) | simp [Region.wanted,yielded,undef]) ?_ hS ?_
  rotate_left
  ·(intro w' hSw; (try dsimp only at hSw); go_simp; try with_reducible rfl)
  try simp only [Act.put,Sp1,Sp2,Sp3,Sp4,Sp5,Sp6]
  refine AnyG.takeGC (i:=23) (v:=?_) rfl (by as_aux_lemma => kernel_rfl) (fun _ _ _ h => h) (by first | (simp [Region.wanted,yielded]; done) | simp [Region.wanted,yielded,undef]) ?_ hS ?_
  rotate_left
  ·(intro w' hSw; (try dsimp only at hSw); go_simp; try with_reducible rfl)
  try simp only [Act.put,Sp1,Sp2,Sp3,Sp4,Sp5,Sp6]
  refine AnyG.takeGC (i:=24) (v:=?_) rfl (by as_aux_lemma => kernel_rfl) (fun _ _ _ h => h) (by first | (simp [Region.wanted,yielded]; done) | simp [Region.wanted,yielded,undef]) ?_ hS ?_
  rotate_left
  ·(intro w' hSw; (try dsimp only at hSw); have rp:=HQP.out _ (hX.trans (hSw.mono hX.size)); go_simp; try with_reducible rfl)
  try simp only [Act.put,Sp1,Sp2,Sp3,Sp4,Sp5,Sp6]
  refine AnyG.takeGC (i:=25) (v:=?_) rfl (by as_aux_lemma => kernel_rfl) (fun _ _ _ h => h) (by first | (simp [Region.wanted,yielded]; done) | simp [Region.wanted,yielded,undef]) ?_ hS ?_
  rotate_left
  ·(intro w' hSw; (try dsimp only at hSw); go_simp; try with_reducible rfl)
  try simp only [Act.put,Sp1,Sp2,Sp3,Sp4,Sp5,Sp6]
  refine AnyG.takeGC (i:=26) (v:=?_) rfl (by as_aux_lemma => kernel_rfl) (fun _ _ _ h => h) (by first | (simp [Region.wanted,yielded]; done) | simp [Region.wanted,yielded,undef]) ?_ hS ?_
  rotate_left
  ·(intro w' hSw; (try dsimp only at hSw); go_simp; try with_reducible rfl)
  try simp only [Act.put,Sp1,Sp2,Sp3,Sp4,Sp5,Sp6]
  refine AnyG.takeGC (i:=27) (v:=?_) rfl (by as_aux_lemma => kernel_rfl) (fun _ _ _ h => h) (by first | (simp [Region.wanted,yielded]; done) | simp [Region.wanted,yielded,undef]) ?_ hS ?_
  rotate_left
  ·(intro w' hSw; (try dsimp only at hSw); go_simp; try with_reducible rfl)
  try simp only [Act.put,Sp1,Sp2,Sp3,Sp4,Sp5,Sp6]
  refine AnyG.takeGC (i:=28) (v:=?_) rfl (by as_aux_lemma => kernel_rfl) (fun _ _ _ h => h) (by first | (simp [Region.wanted,yielded]; done) | simp [Region.wanted,yielded,undef]) ?_ hS ?_
  rotate_left
  ·(intro w' hSw; (try dsimp only at hSw); have rs0:=HQS.out _ (hX.trans (hSw.mono hX.size)); go_simp; try with_reducible rfl)
  try simp only [Act.put,Sp1,Sp2,Sp3,Sp4,Sp5,Sp6]
  refine AnyG.oneC (i:=16) (by as_aux_lemma => kernel_rfl) rfl (by first | (simp [Region.wanted,yielded]; done) | simp [Region.wanted,yielded,undef]) ?_
  go_simp
  refine (verify_any XA ln9 xc YA bn9 yc o9 p9 _ (by omega) (by omega) HLN9.out HBN9.out (hXO.call hS) HG19.out IA n9 ic BL9 HBL9.out (hI.call hS) hic (by omega)).mono ?_
  rintro e16 y16 ⟨rfl,hb16⟩
  rw [HVV.out]
  refine Onward.on (hS.trans (hb16.mono hS.size)) (fun hS2 => ?_)
  clear hS
  have hS:=hS2
  clear hS2
  try simp only [Act.put,Sp1,Sp2,Sp3,Sp4,Sp5,Sp6]
  refine AnyG.oneC (i:=29) (by as_aux_lemma => kernel_rfl) rfl (by first | (simp [Region.wanted,yielded]; done) | simp [Region.wanted,yielded,undef]) ?_
  go_simp
  refine (refVerify_any LA9 ln9 lc9 BA9 bn9 bc9 o9 p9 _ (by omega) (by omega) HLN9.out HBN9.out (hO9.call (hX.trans (hS.mono hX.size))) HG19.out SA9 n9 sc9 BL9 HBL9.out (hSB9.call (hX.trans (hS.mono hX.size))) hsc9 (by omega)).mono ?_
  rintro e29 y29 ⟨rfl,hb29⟩
  rw [HVV.out]
  refine Onward.on (hS.trans (hb29.mono hS.size)) (fun hS2 => ?_)
  clear hS
  have hS:=hS2
  clear hS2
  try simp only [Act.put,Sp1,Sp2,Sp3,Sp4,Sp5,Sp6]
  refine AnyG.takeGC (i:=30) (v:=?_) rfl (by as_aux_lemma => kernel_rfl) (fun _ _ _ h => h) (by first | (simp [Region.wanted,yielded]; done) | simp [Region.wanted,yielded,undef]) ?_ hS ?_
  rotate_left
  ·(intro w' hSw; (try dsimp only at hSw); go_simp; try with_reducible rfl)
  try simp only [Act.put,Sp1,Sp2,Sp3,Sp4,Sp5,Sp6]
  refine AnyG.takeC (i:=31) (v:=?_) rfl (by as_aux_lemma => kernel_rfl) (fun _ _ _ h => h) rfl ?_ hS ?_
  rotate_left
  ·(intro w' hSw; (try dsimp only at hSw); go_simp; try with_reducible rfl)
  try simp only [Act.put,Sp1,Sp2,Sp3,Sp4,Sp5,Sp6]
  refine AnyG.takeC (i:=32) (v:=?_) rfl (by as_aux_lemma => kernel_rfl) (fun _ _ _ h => h) rfl ?_ hS ?_
  rotate_left
  ·(intro w' hSw; (try dsimp only at hSw); go_simp; try with_reducible rfl)
  try simp only [Act.put,Sp1,Sp2,Sp3,Sp4,Sp5,Sp6]
  refine AnyG.takeGC (i:=33) (v:=?_) rfl (by as_aux_lemma => kernel_rfl) (fun _ _ _ h => h) (by first | (simp [Region.wanted,yielded]; done) | simp [Region.wanted,yielded,undef]) ?_ hS ?_
  rotate_left
  ·(intro w' hSw; (try dsimp only at hSw); obtain ⟨t0,t1,t2,t3,tf,tz⟩:=(kX.call hSw).four; go_simp; try with_reducible rfl)
  try simp only [Act.put,Sp1,Sp2,Sp3,Sp4,Sp5,Sp6]
  refine AnyG.takeGC (i:=34) (v:=?_) rfl (by as_aux_lemma => kernel_rfl) (fun _ _ _ h => h) (by first | (simp [Region.wanted,yielded]; done) | simp [Region.wanted,yielded,undef]) ?_ hS ?_
  rotate_left
  ·(intro w' hSw; (try dsimp only at hSw); go_simp; try with_reducible rfl)
  try simp only [Act.put,Sp1,Sp2,Sp3,Sp4,Sp5,Sp6]
  refine AnyG.takeGC (i:=35) (v:=?_) rfl (by as_aux_lemma => kernel_rfl) (fun _ _ _ h => h) (by first | (simp [Region.wanted,yielded]; done) | simp [Region.wanted,yielded,undef]) ?_ hS ?_
  rotate_left
  ·(intro w' hSw; (try dsimp only at hSw); go_simp; try with_reducible rfl)
  try simp only [Act.put,Sp1,Sp2,Sp3,Sp4,Sp5,Sp6]
  refine AnyG.takeGC (i:=36) (v:=?_) rfl (by as_aux_lemma => kernel_rfl) (fun _ _ _ h => h) (by first | (simp [Region.wanted,yielded]; done) | simp [Region.wanted,yielded,undef]) ?_ hS ?_
  rotate_left
  ·(intro w' hSw; (try dsimp only at hSw); go_simp; try with_reducible rfl)
  try simp only [Act.put,Sp1,Sp2,Sp3,Sp4,Sp5,Sp6]
  refine AnyG.takeGC (i:=37) (v:=?_) rfl (by as_aux_lemma => kernel_rfl) (fun _ _ _ h => h) (by first | (simp [Region.wanted,yielded]; done) | simp [Region.wanted,yielded,undef]) ?_ hS ?_
  rotate_left
  ·(intro w' hSw; (try dsimp only at hSw); obtain ⟨q0,q1,q2,q3⟩:=HQO.out _ (hX.trans (hSw.mono hX.size)); go_simp; try with_reducible rfl)
  try simp only [Act.put,Sp1,Sp2,Sp3,Sp4,Sp5,Sp6]
  refine AnyG.oneC (i:=38) (by as_aux_lemma => kernel_rfl) rfl (by first | (simp [Region.wanted,yielded]; done) | simp [Region.wanted,yielded,undef]) ?_
  go_simp
  refine (equalOrders_same XA ln9 xc YA bn9 yc LA9 lc9 BA9 bc9 o9 _ (by omega) (by omega) HLN9.out HBN9.out (hXO.call hS) (hO9.call (hX.trans (hS.mono hX.size))) HG19.out).mono ?_
  rintro e38 y38 ⟨rfl,hb38⟩
  refine Onward.on (hS.trans (hb38.mono hS.size)) (fun hS2 => ?_)
  clear hS
  have hS:=hS2
  clear hS2
  try simp only [Act.put,Sp1,Sp2,Sp3,Sp4,Sp5,Sp6]
  refine AnyG.takeGC (i:=39) (v:=?_) rfl (by as_aux_lemma => kernel_rfl) (fun _ _ _ h => h) (by first | (simp [Region.wanted,yielded]; done) | simp [Region.wanted,yielded,undef]) ?_ hS ?_
  rotate_left
  ·(intro w' hSw; (try dsimp only at hSw); go_simp; try with_reducible rfl)
  try simp only [Act.put,Sp1,Sp2,Sp3,Sp4,Sp5,Sp6]
  refine AnyG.takeC (i:=40) (v:=?_) rfl (by as_aux_lemma => kernel_rfl) (fun _ _ _ h => h) rfl ?_ hS ?_
  rotate_left
  ·(intro w' hSw; (try dsimp only at hSw); go_simp; try with_reducible rfl)
  try simp only [Act.put,Sp1,Sp2,Sp3,Sp4,Sp5,Sp6]
  refine AnyG.takeC (i:=41) (v:=?_) rfl (by as_aux_lemma => kernel_rfl) (fun _ _ _ h => h) rfl ?_ hS ?_
  rotate_left
  ·(intro w' hSw; (try dsimp only at hSw); go_simp; try with_reducible rfl)
  try simp only [Act.put,Sp1,Sp2,Sp3,Sp4,Sp5,Sp6]
  refine AnyG.takeGC (i:=42) (v:=?_) rfl (by as_aux_lemma => kernel_rfl) (fun _ _ _ h => h) (by first | (simp [Region.wanted,yielded]; done) | simp [Region.wanted,yielded,undef]) ?_ hS ?_
  rotate_left
  ·(intro w' hSw; (try dsimp only at hSw); go_simp; try with_reducible rfl)
  try simp only [Act.put,Sp1,Sp2,Sp3,Sp4,Sp5,Sp6]
  refine AnyG.takeGC (i:=43) (v:=?_) rfl (by as_aux_lemma => kernel_rfl) (fun _ _ _ h => h) (by first | (simp [Region.wanted,yielded]; done) | simp [Region.wanted,yielded,undef]) ?_ hS ?_
  rotate_left
  ·(intro w' hSw; (try dsimp only at hSw); go_simp; try with_reducible rfl)
  try simp only [Act.put,Sp1,Sp2,Sp3,Sp4,Sp5,Sp6]
  refine AnyG.takeGC (i:=44) (v:=?_) rfl (by as_aux_lemma => kernel_rfl) (fun _ _ _ h => h) (by first | (simp [Region.wanted,yielded]; done) | simp [Region.wanted,yielded,undef]) ?_ hS ?_
  rotate_left
  ·(intro w' hSw; (try dsimp only at hSw); go_simp; try with_reducible rfl)
  try simp only [Act.put,Sp1,Sp2,Sp3,Sp4,Sp5,Sp6]
  refine AnyG.takeGC (i:=45) (v:=?_) rfl (by as_aux_lemma => kernel_rfl) (fun _ _ _ h => h) (by first | (simp [Region.wanted,yielded]; done) | simp [Region.wanted,yielded,undef]) ?_ hS ?_
  rotate_left
  ·(intro w' hSw; (try dsimp only at hSw); go_simp; try with_reducible rfl)
  try simp only [Act.put,Sp1,Sp2,Sp3,Sp4,Sp5,Sp6]
  refine AnyG.takeGC (i:=46) (v:=?_) rfl (by as_aux_lemma => kernel_rfl) (fun _ _ _ h => h) (by first | (simp [Region.wanted,yielded]; done) | simp [Region.wanted,yielded,undef]) ?_ hS ?_
  rotate_left
  ·(intro w' hSw; (try dsimp only at hSw); have rs0:=HQS.out _ (hX.trans (hSw.mono hX.size)); go_simp; try with_reducible rfl)
  try simp only [Act.put,Sp1,Sp2,Sp3,Sp4,Sp5,Sp6]
  refine AnyG.oneC (i:=47) (by as_aux_lemma => kernel_rfl) rfl (by first | (simp [Region.wanted,yielded]; done) | simp [Region.wanted,yielded,undef]) ?_
  go_simp
  refine (equalProofs_any IA n9 ic SA9 n9 sc9 BL9 BL9 _ (by omega) (by omega) HBL9.out HBL9.out (hI.call hS) (hSB9.call (hX.trans (hS.mono hX.size)))).mono ?_
  rintro e47 y47 ⟨rfl,hb47⟩
  rw [show decide (BL9 = BL9) = true by simp]
  refine Onward.on (hS.trans (hb47.mono hS.size)) (fun hS2 => ?_)
  clear hS
  have hS:=hS2
  clear hS2
  try simp only [Act.put,Sp1,Sp2,Sp3,Sp4,Sp5,Sp6]
  refine AnyG.takeGC (i:=48) (v:=?_) rfl (by as_aux_lemma => kernel_rfl) (fun _ _ _ h => h) (by first | (simp [Region.wanted,yielded]; done) | simp [Region.wanted,yielded,undef]) ?_ hS ?_
  rotate_left
  ·(intro w' hSw; (try dsimp only at hSw); go_simp; try with_reducible rfl)
  try simp only [Act.put,Sp1,Sp2,Sp3,Sp4,Sp5,Sp6]
  refine AnyG.takeC (i:=49) (v:=?_) rfl (by as_aux_lemma => kernel_rfl) (fun _ _ _ h => h) rfl ?_ hS ?_
  rotate_left
  ·(intro w' hSw; (try dsimp only at hSw); go_simp; try with_reducible rfl)
  try simp only [Act.put,Sp1,Sp2,Sp3,Sp4,Sp5,Sp6]
  refine AnyG.done (by as_aux_lemma => kernel_rfl) ?_ _
  have hE : Below Y2.heap.size Y2 _:=hS
  clear hS
  go_simp
  go_wp2_with fail
  go_roundw
  case rel => exact ⟨i + 1,by go_num,by omega,hX.trans (hE.mono hX.size)⟩
  case measure => simp [intOf]; omega
theorem meltProofs_run (LA : Option Addr) (ln lc : Nat) (BA : Option Addr) (bn bc : Nat) (o : Od) (price : Int) (PA : Option Addr) (pl pc : Nat) (LP : List Bd) (r : Bd) (at_ : Int) (A : Option Addr) (m c : Nat) (L : List Int) (w : World) (hln : ln ≤ 9223372036854775807) (hbn : bn ≤ 9223372036854775807) (hl : o.lm.length = ln) (hb' : o.bs.length = bn) (hA0 : OrdAt w w.heap.size LA BA o) (hpl : LP.length = pl) (hpc : pl ≤ pc) (hP : Sl w w.heap.size 3 PA (LP.map bdr)) (ha0 : -9223372036854775808 ≤ at_) (ha1 : at_ ≤ 9223372036854775807) (hm : m ≤ 9000000000000000000) (hL : L.length = m) (hA : Sl w w.heap.size 1 A (ints L)) :
  Calls Try.prog 12 #[.agg #[.slice LA ln lc,.int .i64 o.le,.int .i64 o.mo,.slice BA bn bc],.int .i64 price,.slice PA pl pc,.agg #[.int .i64 r.rs,.int .i64 r.at_,.int .i64 r.ct],.int .i64 at_,.slice A m c] w fun e w' => e = .returned (.bool true) ∧ Below w.heap.size w w' :=
 (meltProofs_A LA ln lc BA bn bc o price PA pl pc LP r at_ A m c L w).2.2 ⟨meltProofs_C LA ln lc BA bn bc o price PA pl pc LP r at_ A m c L w⟩ ⟨meltProofs_B LA ln lc BA bn bc o price PA pl pc LP r at_ A m c L w⟩ hln hbn hl hb' hA0 hpl hpc hP ha0 ha1 hm hL hA
end Go.Proofs.Ytmemcopfeabcgaa
