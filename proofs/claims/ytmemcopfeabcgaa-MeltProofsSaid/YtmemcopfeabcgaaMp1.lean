/- MeltProofs: the orders, prices and proofs that are gone through. -/
import Derived.Test.YtmemcopfeabcgaaMpA
set_option linter.unusedSimpArgs false
set_option linter.unusedVariables false
namespace Go.Proofs.Ytmemcopfeabcgaa
open Go Go.RowKit
set_option maxRecDepth 100000 in
set_option maxHeartbeats 16000000 in
theorem meltProofs_C (LA : Option Addr) (ln lc : Nat) (BA : Option Addr) (bn bc : Nat) (o : Od) (price : Int) (PA : Option Addr) (pl pc : Nat) (LP : List Bd) (r : Bd) (at_ : Int) (A : Option Addr) (m c : Nat) (L : List Int) (w : World) : (meltProofs_A LA ln lc BA bn bc o price PA pl pc LP r at_ A m c L w).1:=by
 intro hpc ha0 ha1 hm HLN HBN HL HPL V HV b0 HB0 qq wc hln20 hbn20 hpl60 HGR hb0l w3 g hg0 hgb hgb9 hwg w4 om MA NA mc nc HOM ml mn hml3 hmn4 HML HMN U bm hgl hgm HOG HOG1 w5 s vs cc ec y1 ra y3 q0 q hq0 w7 RA rc RL rn hrc hrl HRN i69 hi69 hz69 hs69 iy69 w8 OA oc hoc u31 u32 u33 u34 u35 u36 u37 u38 u39 u40 u41 u42 u43 u44 u45 u46 u47 u48 u49 u50 u51 u52 u53 u54 u55 u56 u57 u58 u59 u60 u61 u62 u63 u64 u65 u66 u67 u68 u69 u70 u71 u72 u73 u74 u75 u76 u77 u78 u79 u80 u81 u82 u83 u84 u85 u86 u87 u88 u89 u90 u91 u92 u93 u94 u95 u96 u97 u98 u99 u100 u101 u102 u103 u104 u105 u106 u107 u108 u109 u110 u111 u112 u113 u114 u115 u116 u117 u118 u119 u120 u121 u122 u123 u124 u125 u126 u127 u128 u129 u130 u131 u132 u133 u134 u135 u136 u137 u138 u139 u140 u141 u142 u143 u144 u145 u146 u147 u148 u149 u150 u151 u152 u153 u154 u155 u156 u157 u158 u159 u160 u161 u162 u163 u164 u165 u166 u167 u168 u169 u170 u171 u172 u173 u174 u175 u176 u177 u178 u179 u180 u181 u182 u183 u184 u185 u186 u187 u188 u189 u190 u191 u192 u193 u194 u195 u196 u197 u198 u199 u200 u201 u202 OL HOL W9 hOL k10 km10 hO10 hOm10 hP10 hR10 B10 hF10 JJ KP m1 m0
 apply by_tail4 (Hy:=fun y b98 b107 b113 rb => FT g W9 y ∧ Bx y b98 27 #[.slice LA ln lc,.int .i64 o.le,.int .i64 o.mo,.slice BA bn bc,.slice MA ml mc,.int .i64 om.le,.int .i64 om.mo,.slice NA mn nc,.slice MA ml mc,.int .i64 om.le,.int .i64 om.mo,.slice NA mn nc,.slice MA ml mc,.int .i64 om.le,.int .i64 om.mo,.slice NA mn nc,.slice MA ml mc,.int .i64 om.le,.int .i64 om.mo,.slice NA mn nc] ∧ Bx y b107 3 #[.int .i64 price,.int .i64 q,.int .i64 q,.int .i64 price,.int .i64 (q + rb)] ∧ Bx y b113 51 #[.slice PA pl pc,.slice RA rn rc,.slice OA rn oc,.slice PA pl pc,.slice RA rn rc])
 case main =>
  intro tail
  refine AnyG.startC (by as_aux_lemma => kernel_rfl) ?_
  refine AnyG.takeP (i:=6) (v:=?_) rfl (by as_aux_lemma => kernel_rfl) (fun _ _ _ h => h) rfl ?_ ?_
  rotate_left
  ·(intro w'; go_simp; try with_reducible rfl)
  try simp only [Act.put,Sp1,Sp2,Sp3,Sp4,Sp5,Sp6]
  refine AnyG.takeP (i:=7) (v:=?_) rfl (by as_aux_lemma => kernel_rfl) (fun _ _ _ h => h) rfl ?_ ?_
  rotate_left
  ·(intro w'; go_simp; try with_reducible rfl)
  try simp only [Act.put,Sp1,Sp2,Sp3,Sp4,Sp5,Sp6]
  refine AnyG.takeP (i:=8) (v:=?_) rfl (by as_aux_lemma => kernel_rfl) (fun _ _ _ h => h) rfl ?_ ?_
  rotate_left
  ·(intro w'; go_simp; try with_reducible rfl)
  try simp only [Act.put,Sp1,Sp2,Sp3,Sp4,Sp5,Sp6]
  refine AnyG.takeP (i:=9) (v:=?_) rfl (by as_aux_lemma => kernel_rfl) (fun _ _ _ h => h) rfl ?_ ?_
  rotate_left
  ·(intro w'; go_simp; try with_reducible rfl)
  try simp only [Act.put,Sp1,Sp2,Sp3,Sp4,Sp5,Sp6]
  refine AnyG.takeP (i:=10) (v:=?_) rfl (by as_aux_lemma => kernel_rfl) (fun _ _ _ h => h) rfl ?_ ?_
  rotate_left
  ·(intro w'; go_simp; try with_reducible rfl)
  try simp only [Act.put,Sp1,Sp2,Sp3,Sp4,Sp5,Sp6]
  refine AnyG.takeP (i:=11) (v:=?_) rfl (by as_aux_lemma => kernel_rfl) (fun _ _ _ h => h) rfl ?_ ?_
  rotate_left
  ·(intro w'; go_simp; try with_reducible rfl)
  try simp only [Act.put,Sp1,Sp2,Sp3,Sp4,Sp5,Sp6]
  refine AnyG.takeP (i:=15) (v:=?_) rfl (by as_aux_lemma => kernel_rfl) (fun _ _ _ h => h) rfl ?_ ?_
  rotate_left
  ·(intro w'; go_simp; try with_reducible rfl)
  try simp only [Act.put,Sp1,Sp2,Sp3,Sp4,Sp5,Sp6]
  refine AnyG.takeP (i:=16) (v:=?_) rfl (by as_aux_lemma => kernel_rfl) (fun _ _ _ h => h) rfl ?_ ?_
  rotate_left
  ·(intro w'; go_simp; try with_reducible rfl)
  try simp only [Act.put,Sp1,Sp2,Sp3,Sp4,Sp5,Sp6]
  refine AnyG.takeP (i:=17) (v:=?_) rfl (by as_aux_lemma => kernel_rfl) (fun _ _ _ h => h) rfl ?_ ?_
  rotate_left
  ·(intro w'; go_simp; try with_reducible rfl)
  try simp only [Act.put,Sp1,Sp2,Sp3,Sp4,Sp5,Sp6]
  refine AnyG.takeP (i:=18) (v:=?_) rfl (by as_aux_lemma => kernel_rfl) (fun _ _ _ h => h) rfl ?_ ?_
  rotate_left
  ·(intro w'; go_simp; try with_reducible rfl)
  try simp only [Act.put,Sp1,Sp2,Sp3,Sp4,Sp5,Sp6]
  refine AnyG.takeP (i:=19) (v:=?_) rfl (by as_aux_lemma => kernel_rfl) (fun _ _ _ h => h) rfl ?_ ?_
  rotate_left
  ·(intro w'; go_simp; try with_reducible rfl)
  try simp only [Act.put,Sp1,Sp2,Sp3,Sp4,Sp5,Sp6]
  refine AnyG.enter (fun w' : World => FT g W9 w') (fun i => true) ?_
  have hS : (fun w' : World => FT g W9 w') (W9.drew):=(FT.self hF10).drew
  try dsimp only at hS
  obtain ⟨y0,hy0⟩ : ∃ y,W9.drew = y:=⟨_,rfl⟩
  rw [hy0] at hS ⊢
  clear hy0
  refine AnyG.takeC (i:=0) (v:=?_) rfl (by as_aux_lemma => kernel_rfl) (fun _ _ _ h => h) rfl ?_ hS ?_
  rotate_left
  ·(intro w' hSw; (try dsimp only at hSw); obtain ⟨l0,l1,l2,l3,lf2,lz⟩:=(hSw.bx k10 hgb).four; go_simp; try with_reducible rfl)
  try simp only [Act.put,Sp1,Sp2,Sp3,Sp4,Sp5,Sp6]
  refine AnyG.takeC (i:=1) (v:=?_) rfl (by as_aux_lemma => kernel_rfl) (fun _ _ _ h => h) rfl ?_ hS ?_
  rotate_left
  ·(intro w' hSw; (try dsimp only at hSw); obtain ⟨m0,m1,m2,m3,mf,mz⟩:=(hSw.bx km10 hgm).four; go_simp; try with_reducible rfl)
  try simp only [Act.put,Sp1,Sp2,Sp3,Sp4,Sp5,Sp6]
  refine AnyG.takeC (i:=2) (v:=?_) rfl (by as_aux_lemma => kernel_rfl) (fun _ _ _ h => h) rfl ?_ hS ?_
  rotate_left
  ·(intro w' hSw; (try dsimp only at hSw); obtain ⟨m0,m1,m2,m3,mf,mz⟩:=(hSw.bx km10 hgm).four; go_simp; try with_reducible rfl)
  try simp only [Act.put,Sp1,Sp2,Sp3,Sp4,Sp5,Sp6]
  refine AnyG.takeC (i:=3) (v:=?_) rfl (by as_aux_lemma => kernel_rfl) (fun _ _ _ h => h) rfl ?_ hS ?_
  rotate_left
  ·(intro w' hSw; (try dsimp only at hSw); obtain ⟨m0,m1,m2,m3,mf,mz⟩:=(hSw.bx km10 hgm).four; go_simp; try with_reducible rfl)
  try simp only [Act.put,Sp1,Sp2,Sp3,Sp4,Sp5,Sp6]
  refine AnyG.takeC (i:=4) (v:=?_) rfl (by as_aux_lemma => kernel_rfl) (fun _ _ _ h => h) rfl ?_ hS ?_
  rotate_left
  ·(intro w' hSw; (try dsimp only at hSw); obtain ⟨m0,m1,m2,m3,mf,mz⟩:=(hSw.bx km10 hgm).four; go_simp; try with_reducible rfl)
  try simp only [Act.put,Sp1,Sp2,Sp3,Sp4,Sp5,Sp6]
  refine AnyG.all (rs:=[5,12,20]) (by as_aux_lemma => kernel_rfl) (by simp) ?_
  intro ii hii
  simp only [List.mem_cons,List.not_mem_nil,or_false] at hii
  rcases hii with rfl | rfl | rfl
  ·refine ⟨_,rfl,rfl,?_⟩
   go_simp
   have kos:=Bx.new y0 27 #[.slice LA ln lc,.int .i64 o.le,.int .i64 o.mo,.slice BA bn bc,.slice MA ml mc,.int .i64 om.le,.int .i64 om.mo,.slice NA mn nc,.slice MA ml mc,.int .i64 om.le,.int .i64 om.mo,.slice NA mn nc,.slice MA ml mc,.int .i64 om.le,.int .i64 om.mo,.slice NA mn nc,.slice MA ml mc,.int .i64 om.le,.int .i64 om.mo,.slice NA mn nc]
   have hT3:=hS.alloc (.cells #[.slice LA ln lc,.int .i64 o.le,.int .i64 o.mo,.slice BA bn bc,.slice MA ml mc,.int .i64 om.le,.int .i64 om.mo,.slice NA mn nc,.slice MA ml mc,.int .i64 om.le,.int .i64 om.mo,.slice NA mn nc,.slice MA ml mc,.int .i64 om.le,.int .i64 om.mo,.slice NA mn nc,.slice MA ml mc,.int .i64 om.le,.int .i64 om.mo,.slice NA mn nc] 27)
   have hb98:=hS.size
   obtain ⟨z5,hy⟩ : ∃ x,y0.alloc (.cells #[.slice LA ln lc,.int .i64 o.le,.int .i64 o.mo,.slice BA bn bc,.slice MA ml mc,.int .i64 om.le,.int .i64 om.mo,.slice NA mn nc,.slice MA ml mc,.int .i64 om.le,.int .i64 om.mo,.slice NA mn nc,.slice MA ml mc,.int .i64 om.le,.int .i64 om.mo,.slice NA mn nc,.slice MA ml mc,.int .i64 om.le,.int .i64 om.mo,.slice NA mn nc] 27) = x:=⟨_,rfl⟩
   rw [hy] at kos hT3 ⊢
   obtain ⟨b98,hbq⟩ : ∃ p,y0.heap.size = p:=⟨_,rfl⟩
   rw [hbq] at kos hb98 ⊢
   clear hy hbq
   have hSn:=hT3
   clear hS
   refine Onward.on hSn (fun hS => ?_)
   try dsimp only at hS
   clear hSn
   try simp only [Act.put,Sp1,Sp2,Sp3,Sp4,Sp5,Sp6]
   refine AnyG.all (rs:=[12,20]) (by as_aux_lemma => kernel_rfl) (by simp) ?_
   intro ii hii
   simp only [List.mem_cons,List.not_mem_nil,or_false] at hii
   rcases hii with rfl | rfl
   ·refine ⟨_,rfl,rfl,?_⟩
    go_simp
    refine (below_any g 9 _ hS.2 (by omega) (by omega)).mono ?_
    rintro e12 z12 ⟨⟨rb,rfl,rb1,rb2⟩,hF12,hg12⟩
    have hbw : IntKind.i64.wrap (q + rb) = q + rb:=IntWalk.i64_in _ (by omega)
    replace kos:=kos.grown hg12 (by have:=hF10.lt; simp; omega)
    have hSn:=(hS.call hg12 hF12)
    clear hS
    refine Onward.on hSn (fun hS => ?_)
    try dsimp only at hS
    clear hSn
    try simp only [Act.put,Sp1,Sp2,Sp3,Sp4,Sp5,Sp6]
    refine AnyG.takeC (i:=13) (v:=?_) rfl (by as_aux_lemma => kernel_rfl) (fun _ _ _ h => h) rfl ?_ hS ?_
    rotate_left
    ·(intro w' hSw; (try dsimp only at hSw); go_simp; try with_reducible rfl)
    try simp only [Act.put,Sp1,Sp2,Sp3,Sp4,Sp5,Sp6]
    refine AnyG.all (rs:=[14,20,21]) (by as_aux_lemma => kernel_rfl) (by simp) ?_
    intro ii hii
    simp only [List.mem_cons,List.not_mem_nil,or_false] at hii
    rcases hii with rfl | rfl | rfl
    ·refine ⟨_,rfl,rfl,?_⟩
     go_simp
     have kps:=Bx.new z12 3 #[.int .i64 price,.int .i64 q,.int .i64 q,.int .i64 price,.int .i64 (q + rb)]
     have hT3:=hS.alloc (.cells #[.int .i64 price,.int .i64 q,.int .i64 q,.int .i64 price,.int .i64 (q + rb)] 3)
     have hb107:=hS.size
     replace kos:=kos.alloc (.cells #[.int .i64 price,.int .i64 q,.int .i64 q,.int .i64 price,.int .i64 (q + rb)] 3)
     obtain ⟨z14,hy⟩ : ∃ x,z12.alloc (.cells #[.int .i64 price,.int .i64 q,.int .i64 q,.int .i64 price,.int .i64 (q + rb)] 3) = x:=⟨_,rfl⟩
     rw [hy] at kos kps hT3 ⊢
     obtain ⟨b107,hbq⟩ : ∃ p,z12.heap.size = p:=⟨_,rfl⟩
     rw [hbq] at kps hb107 ⊢
     clear hy hbq
     have hSn:=hT3
     clear hS
     refine Onward.on hSn (fun hS => ?_)
     try dsimp only at hS
     clear hSn
     try simp only [Act.put,Sp1,Sp2,Sp3,Sp4,Sp5,Sp6]
     refine AnyG.all (rs:=[20,21]) (by as_aux_lemma => kernel_rfl) (by simp) ?_
     intro ii hii
     simp only [List.mem_cons,List.not_mem_nil,or_false] at hii
     rcases hii with rfl | rfl
     ·refine ⟨_,rfl,rfl,?_⟩
      go_simp
      have kss:=Bx.new z14 51 #[.slice PA pl pc,.slice RA rn rc,.slice OA rn oc,.slice PA pl pc,.slice RA rn rc]
      have hT3:=hS.alloc (.cells #[.slice PA pl pc,.slice RA rn rc,.slice OA rn oc,.slice PA pl pc,.slice RA rn rc] 51)
      have hb113:=hS.size
      replace kos:=kos.alloc (.cells #[.slice PA pl pc,.slice RA rn rc,.slice OA rn oc,.slice PA pl pc,.slice RA rn rc] 51)
      replace kps:=kps.alloc (.cells #[.slice PA pl pc,.slice RA rn rc,.slice OA rn oc,.slice PA pl pc,.slice RA rn rc] 51)
      obtain ⟨z20,hy⟩ : ∃ x,z14.alloc (.cells #[.slice PA pl pc,.slice RA rn rc,.slice OA rn oc,.slice PA pl pc,.slice RA rn rc] 51) = x:=⟨_,rfl⟩
      rw [hy] at kos kps kss hT3 ⊢
      obtain ⟨b113,hbq⟩ : ∃ p,z14.heap.size = p:=⟨_,rfl⟩
      rw [hbq] at kss hb113 ⊢
      clear hy hbq
      have hSn:=hT3
      clear hS
      refine Onward.on hSn (fun hS => ?_)
      try dsimp only at hS
      clear hSn
      try simp only [Act.put,Sp1,Sp2,Sp3,Sp4,Sp5,Sp6]
      refine AnyG.castL (L':=#[true,true,true,true,true,true,true,true,true,true,true,true,true,true,true,true,true,true,true,true,true,false,false,false]) (by as_aux_lemma => kernel_rfl) ?_
      exact tail z20 b98 b107 b113 rb ⟨hS,kos,kps,kss⟩
     ·refine ⟨_,rfl,rfl,?_⟩
      go_simp
      refine Onward.on hS (fun hS2 => ?_)
      clear hS2
      try simp only [Act.put,Sp1,Sp2,Sp3,Sp4,Sp5,Sp6]
      refine AnyG.all (rs:=[20,22]) (by as_aux_lemma => kernel_rfl) (by simp) ?_
      intro ii hii
      simp only [List.mem_cons,List.not_mem_nil,or_false] at hii
      rcases hii with rfl | rfl
      ·refine ⟨_,rfl,rfl,?_⟩
       go_simp
       have kss:=Bx.new z14 51 #[.slice PA pl pc,.slice RA rn rc,.slice OA rn oc,.slice PA pl pc,.slice RA rn rc]
       have hT3:=hS.alloc (.cells #[.slice PA pl pc,.slice RA rn rc,.slice OA rn oc,.slice PA pl pc,.slice RA rn rc] 51)
       have hb113:=hS.size
       replace kos:=kos.alloc (.cells #[.slice PA pl pc,.slice RA rn rc,.slice OA rn oc,.slice PA pl pc,.slice RA rn rc] 51)
       replace kps:=kps.alloc (.cells #[.slice PA pl pc,.slice RA rn rc,.slice OA rn oc,.slice PA pl pc,.slice RA rn rc] 51)
       obtain ⟨z20,hy⟩ : ∃ x,z14.alloc (.cells #[.slice PA pl pc,.slice RA rn rc,.slice OA rn oc,.slice PA pl pc,.slice RA rn rc] 51) = x:=⟨_,rfl⟩
       rw [hy] at kos kps kss hT3 ⊢
       obtain ⟨b113,hbq⟩ : ∃ p,z14.heap.size = p:=⟨_,rfl⟩
       rw [hbq] at kss hb113 ⊢
       clear hy hbq
       have hSn:=hT3
       clear hS
       refine Onward.on hSn (fun hS => ?_)
       try dsimp only at hS
       clear hSn
       try simp only [Act.put,Sp1,Sp2,Sp3,Sp4,Sp5,Sp6]
       refine AnyG.one (i:=22) (by as_aux_lemma => kernel_rfl) rfl rfl ?_
       go_simp
       refine Onward.on hS (fun hS2 => ?_)
       clear hS2
       try simp only [Act.put,Sp1,Sp2,Sp3,Sp4,Sp5,Sp6]
       refine AnyG.one (i:=23) (by as_aux_lemma => kernel_rfl) rfl rfl ?_
       go_simp
       refine Onward.on hS (fun hS2 => ?_)
       clear hS2
       try simp only [Act.put,Sp1,Sp2,Sp3,Sp4,Sp5,Sp6]
       refine AnyG.done (by as_aux_lemma => kernel_rfl) ?_ _
       have hT:=hS
       clear hS
       go_simp
       go_wp2_with fail
       go_meet
       exact ⟨b98,b107,b113,rb,rfl,rfl,rfl,kos,kps,kss,hT⟩
      ·refine ⟨_,rfl,rfl,?_⟩
       go_simp
       refine Onward.on hS (fun hS2 => ?_)
       clear hS2
       try simp only [Act.put,Sp1,Sp2,Sp3,Sp4,Sp5,Sp6]
       refine AnyG.one (i:=20) (by as_aux_lemma => kernel_rfl) rfl rfl ?_
       go_simp
       have kss:=Bx.new z14 51 #[.slice PA pl pc,.slice RA rn rc,.slice OA rn oc,.slice PA pl pc,.slice RA rn rc]
       have hT3:=hS.alloc (.cells #[.slice PA pl pc,.slice RA rn rc,.slice OA rn oc,.slice PA pl pc,.slice RA rn rc] 51)
       have hb113:=hS.size
       replace kos:=kos.alloc (.cells #[.slice PA pl pc,.slice RA rn rc,.slice OA rn oc,.slice PA pl pc,.slice RA rn rc] 51)
       replace kps:=kps.alloc (.cells #[.slice PA pl pc,.slice RA rn rc,.slice OA rn oc,.slice PA pl pc,.slice RA rn rc] 51)
       obtain ⟨z20,hy⟩ : ∃ x,z14.alloc (.cells #[.slice PA pl pc,.slice RA rn rc,.slice OA rn oc,.slice PA pl pc,.slice RA rn rc] 51) = x:=⟨_,rfl⟩
       rw [hy] at kos kps kss hT3 ⊢
       obtain ⟨b113,hbq⟩ : ∃ p,z14.heap.size = p:=⟨_,rfl⟩
       rw [hbq] at kss hb113 ⊢
       clear hy hbq
       have hSn:=hT3
       clear hS
       refine Onward.on hSn (fun hS => ?_)
       try dsimp only at hS
       clear hSn
       try simp only [Act.put,Sp1,Sp2,Sp3,Sp4,Sp5,Sp6]
       refine AnyG.one (i:=23) (by as_aux_lemma => kernel_rfl) rfl rfl ?_
       go_simp
       refine Onward.on hS (fun hS2 => ?_)
       clear hS2
       try simp only [Act.put,Sp1,Sp2,Sp3,Sp4,Sp5,Sp6]
       refine AnyG.done (by as_aux_lemma => kernel_rfl) ?_ _
       have hT:=hS
       clear hS
       go_simp
       go_wp2_with fail
       go_meet
       exact ⟨b98,b107,b113,rb,rfl,rfl,rfl,kos,kps,kss,hT⟩
    ·refine ⟨_,rfl,rfl,?_⟩
     go_simp
     have kss:=Bx.new z12 51 #[.slice PA pl pc,.slice RA rn rc,.slice OA rn oc,.slice PA pl pc,.slice RA rn rc]
     have hT3:=hS.alloc (.cells #[.slice PA pl pc,.slice RA rn rc,.slice OA rn oc,.slice PA pl pc,.slice RA rn rc] 51)
     have hb113:=hS.size
     replace kos:=kos.alloc (.cells #[.slice PA pl pc,.slice RA rn rc,.slice OA rn oc,.slice PA pl pc,.slice RA rn rc] 51)
     obtain ⟨z20,hy⟩ : ∃ x,z12.alloc (.cells #[.slice PA pl pc,.slice RA rn rc,.slice OA rn oc,.slice PA pl pc,.slice RA rn rc] 51) = x:=⟨_,rfl⟩
     rw [hy] at kos kss hT3 ⊢
     obtain ⟨b113,hbq⟩ : ∃ p,z12.heap.size = p:=⟨_,rfl⟩
     rw [hbq] at kss hb113 ⊢
     clear hy hbq
     have hSn:=hT3
     clear hS
     refine Onward.on hSn (fun hS => ?_)
     try dsimp only at hS
     clear hSn
     try simp only [Act.put,Sp1,Sp2,Sp3,Sp4,Sp5,Sp6]
     refine AnyG.all (rs:=[14,21]) (by as_aux_lemma => kernel_rfl) (by simp) ?_
     intro ii hii
     simp only [List.mem_cons,List.not_mem_nil,or_false] at hii
     rcases hii with rfl | rfl
     ·refine ⟨_,rfl,rfl,?_⟩
      go_simp
      have kps:=Bx.new z20 3 #[.int .i64 price,.int .i64 q,.int .i64 q,.int .i64 price,.int .i64 (q + rb)]
      have hT3:=hS.alloc (.cells #[.int .i64 price,.int .i64 q,.int .i64 q,.int .i64 price,.int .i64 (q + rb)] 3)
      have hb107:=hS.size
      replace kos:=kos.alloc (.cells #[.int .i64 price,.int .i64 q,.int .i64 q,.int .i64 price,.int .i64 (q + rb)] 3)
      replace kss:=kss.alloc (.cells #[.int .i64 price,.int .i64 q,.int .i64 q,.int .i64 price,.int .i64 (q + rb)] 3)
      obtain ⟨z14,hy⟩ : ∃ x,z20.alloc (.cells #[.int .i64 price,.int .i64 q,.int .i64 q,.int .i64 price,.int .i64 (q + rb)] 3) = x:=⟨_,rfl⟩
      rw [hy] at kos kss kps hT3 ⊢
      obtain ⟨b107,hbq⟩ : ∃ p,z20.heap.size = p:=⟨_,rfl⟩
      rw [hbq] at kps hb107 ⊢
      clear hy hbq
      have hSn:=hT3
      clear hS
      refine Onward.on hSn (fun hS => ?_)
      try dsimp only at hS
      clear hSn
      try simp only [Act.put,Sp1,Sp2,Sp3,Sp4,Sp5,Sp6]
      refine AnyG.castL (L':=#[true,true,true,true,true,true,true,true,true,true,true,true,true,true,true,true,true,true,true,true,true,false,false,false]) (by as_aux_lemma => kernel_rfl) ?_
      exact tail z14 b98 b107 b113 rb ⟨hS,kos,kps,kss⟩
     ·refine ⟨_,rfl,rfl,?_⟩
      go_simp
      refine Onward.on hS (fun hS2 => ?_)
      clear hS2
      try simp only [Act.put,Sp1,Sp2,Sp3,Sp4,Sp5,Sp6]
      refine AnyG.one (i:=14) (by as_aux_lemma => kernel_rfl) rfl rfl ?_
      go_simp
      have kps:=Bx.new z20 3 #[.int .i64 price,.int .i64 q,.int .i64 q,.int .i64 price,.int .i64 (q + rb)]
      have hT3:=hS.alloc (.cells #[.int .i64 price,.int .i64 q,.int .i64 q,.int .i64 price,.int .i64 (q + rb)] 3)
      have hb107:=hS.size
      replace kos:=kos.alloc (.cells #[.int .i64 price,.int .i64 q,.int .i64 q,.int .i64 price,.int .i64 (q + rb)] 3)
      replace kss:=kss.alloc (.cells #[.int .i64 price,.int .i64 q,.int .i64 q,.int .i64 price,.int .i64 (q + rb)] 3)
      obtain ⟨z14,hy⟩ : ∃ x,z20.alloc (.cells #[.int .i64 price,.int .i64 q,.int .i64 q,.int .i64 price,.int .i64 (q + rb)] 3) = x:=⟨_,rfl⟩
      rw [hy] at kos kss kps hT3 ⊢
      obtain ⟨b107,hbq⟩ : ∃ p,z20.heap.size = p:=⟨_,rfl⟩
      rw [hbq] at kps hb107 ⊢
      clear hy hbq
      have hSn:=hT3
      clear hS
      refine Onward.on hSn (fun hS => ?_)
      try dsimp only at hS
      clear hSn
      try simp only [Act.put,Sp1,Sp2,Sp3,Sp4,Sp5,Sp6]
      refine AnyG.one (i:=22) (by as_aux_lemma => kernel_rfl) rfl rfl ?_
      go_simp
      refine Onward.on hS (fun hS2 => ?_)
      clear hS2
      try simp only [Act.put,Sp1,Sp2,Sp3,Sp4,Sp5,Sp6]
      refine AnyG.one (i:=23) (by as_aux_lemma => kernel_rfl) rfl rfl ?_
      go_simp
      refine Onward.on hS (fun hS2 => ?_)
      clear hS2
      try simp only [Act.put,Sp1,Sp2,Sp3,Sp4,Sp5,Sp6]
      refine AnyG.done (by as_aux_lemma => kernel_rfl) ?_ _
      have hT:=hS
      clear hS
      go_simp
      go_wp2_with fail
      go_meet
      exact ⟨b98,b107,b113,rb,rfl,rfl,rfl,kos,kps,kss,hT⟩
    ·refine ⟨_,rfl,rfl,?_⟩
     go_simp
     refine Onward.on hS (fun hS2 => ?_)
     clear hS2
     try simp only [Act.put,Sp1,Sp2,Sp3,Sp4,Sp5,Sp6]
     refine AnyG.all (rs:=[14,20]) (by as_aux_lemma => kernel_rfl) (by simp) ?_
     intro ii hii
     simp only [List.mem_cons,List.not_mem_nil,or_false] at hii
     rcases hii with rfl | rfl
     ·refine ⟨_,rfl,rfl,?_⟩
      go_simp
      have kps:=Bx.new z12 3 #[.int .i64 price,.int .i64 q,.int .i64 q,.int .i64 price,.int .i64 (q + rb)]
      have hT3:=hS.alloc (.cells #[.int .i64 price,.int .i64 q,.int .i64 q,.int .i64 price,.int .i64 (q + rb)] 3)
      have hb107:=hS.size
      replace kos:=kos.alloc (.cells #[.int .i64 price,.int .i64 q,.int .i64 q,.int .i64 price,.int .i64 (q + rb)] 3)
      obtain ⟨z14,hy⟩ : ∃ x,z12.alloc (.cells #[.int .i64 price,.int .i64 q,.int .i64 q,.int .i64 price,.int .i64 (q + rb)] 3) = x:=⟨_,rfl⟩
      rw [hy] at kos kps hT3 ⊢
      obtain ⟨b107,hbq⟩ : ∃ p,z12.heap.size = p:=⟨_,rfl⟩
      rw [hbq] at kps hb107 ⊢
      clear hy hbq
      have hSn:=hT3
      clear hS
      refine Onward.on hSn (fun hS => ?_)
      try dsimp only at hS
      clear hSn
      try simp only [Act.put,Sp1,Sp2,Sp3,Sp4,Sp5,Sp6]
      refine AnyG.all (rs:=[20,22]) (by as_aux_lemma => kernel_rfl) (by simp) ?_
      intro ii hii
      simp only [List.mem_cons,List.not_mem_nil,or_false] at hii
      rcases hii with rfl | rfl
      ·refine ⟨_,rfl,rfl,?_⟩
       go_simp
       have kss:=Bx.new z14 51 #[.slice PA pl pc,.slice RA rn rc,.slice OA rn oc,.slice PA pl pc,.slice RA rn rc]
       have hT3:=hS.alloc (.cells #[.slice PA pl pc,.slice RA rn rc,.slice OA rn oc,.slice PA pl pc,.slice RA rn rc] 51)
       have hb113:=hS.size
       replace kos:=kos.alloc (.cells #[.slice PA pl pc,.slice RA rn rc,.slice OA rn oc,.slice PA pl pc,.slice RA rn rc] 51)
       replace kps:=kps.alloc (.cells #[.slice PA pl pc,.slice RA rn rc,.slice OA rn oc,.slice PA pl pc,.slice RA rn rc] 51)
       obtain ⟨z20,hy⟩ : ∃ x,z14.alloc (.cells #[.slice PA pl pc,.slice RA rn rc,.slice OA rn oc,.slice PA pl pc,.slice RA rn rc] 51) = x:=⟨_,rfl⟩
       rw [hy] at kos kps kss hT3 ⊢
       obtain ⟨b113,hbq⟩ : ∃ p,z14.heap.size = p:=⟨_,rfl⟩
       rw [hbq] at kss hb113 ⊢
       clear hy hbq
       have hSn:=hT3
       clear hS
       refine Onward.on hSn (fun hS => ?_)
       try dsimp only at hS
       clear hSn
       try simp only [Act.put,Sp1,Sp2,Sp3,Sp4,Sp5,Sp6]
       refine AnyG.one (i:=22) (by as_aux_lemma => kernel_rfl) rfl rfl ?_
       go_simp
       refine Onward.on hS (fun hS2 => ?_)
       clear hS2
       try simp only [Act.put,Sp1,Sp2,Sp3,Sp4,Sp5,Sp6]
       refine AnyG.one (i:=23) (by as_aux_lemma => kernel_rfl) rfl rfl ?_
       go_simp
       refine Onward.on hS (fun hS2 => ?_)
       clear hS2
       try simp only [Act.put,Sp1,Sp2,Sp3,Sp4,Sp5,Sp6]
       refine AnyG.done (by as_aux_lemma => kernel_rfl) ?_ _
       have hT:=hS
       clear hS
       go_simp
       go_wp2_with fail
       go_meet
       exact ⟨b98,b107,b113,rb,rfl,rfl,rfl,kos,kps,kss,hT⟩
      ·refine ⟨_,rfl,rfl,?_⟩
       go_simp
       refine Onward.on hS (fun hS2 => ?_)
       clear hS2
       try simp only [Act.put,Sp1,Sp2,Sp3,Sp4,Sp5,Sp6]
       refine AnyG.one (i:=20) (by as_aux_lemma => kernel_rfl) rfl rfl ?_
       go_simp
       have kss:=Bx.new z14 51 #[.slice PA pl pc,.slice RA rn rc,.slice OA rn oc,.slice PA pl pc,.slice RA rn rc]
       have hT3:=hS.alloc (.cells #[.slice PA pl pc,.slice RA rn rc,.slice OA rn oc,.slice PA pl pc,.slice RA rn rc] 51)
       have hb113:=hS.size
       replace kos:=kos.alloc (.cells #[.slice PA pl pc,.slice RA rn rc,.slice OA rn oc,.slice PA pl pc,.slice RA rn rc] 51)
       replace kps:=kps.alloc (.cells #[.slice PA pl pc,.slice RA rn rc,.slice OA rn oc,.slice PA pl pc,.slice RA rn rc] 51)
       obtain ⟨z20,hy⟩ : ∃ x,z14.alloc (.cells #[.slice PA pl pc,.slice RA rn rc,.slice OA rn oc,.slice PA pl pc,.slice RA rn rc] 51) = x:=⟨_,rfl⟩
       rw [hy] at kos kps kss hT3 ⊢
       obtain ⟨b113,hbq⟩ : ∃ p,z14.heap.size = p:=⟨_,rfl⟩
       rw [hbq] at kss hb113 ⊢
       clear hy hbq
       have hSn:=hT3
       clear hS
       refine Onward.on hSn (fun hS => ?_)
       try dsimp only at hS
       clear hSn
       try simp only [Act.put,Sp1,Sp2,Sp3,Sp4,Sp5,Sp6]
       refine AnyG.one (i:=23) (by as_aux_lemma => kernel_rfl) rfl rfl ?_
       go_simp
       refine Onward.on hS (fun hS2 => ?_)
       clear hS2
       try simp only [Act.put,Sp1,Sp2,Sp3,Sp4,Sp5,Sp6]
       refine AnyG.done (by as_aux_lemma => kernel_rfl) ?_ _
       have hT:=hS
       clear hS
       go_simp
       go_wp2_with fail
       go_meet
       exact ⟨b98,b107,b113,rb,rfl,rfl,rfl,kos,kps,kss,hT⟩
     ·refine ⟨_,rfl,rfl,?_⟩
      go_simp
      have kss:=Bx.new z12 51 #[.slice PA pl pc,.slice RA rn rc,.slice OA rn oc,.slice PA pl pc,.slice RA rn rc]
      have hT3:=hS.alloc (.cells #[.slice PA pl pc,.slice RA rn rc,.slice OA rn oc,.slice PA pl pc,.slice RA rn rc] 51)
      have hb113:=hS.size
      replace kos:=kos.alloc (.cells #[.slice PA pl pc,.slice RA rn rc,.slice OA rn oc,.slice PA pl pc,.slice RA rn rc] 51)
      obtain ⟨z20,hy⟩ : ∃ x,z12.alloc (.cells #[.slice PA pl pc,.slice RA rn rc,.slice OA rn oc,.slice PA pl pc,.slice RA rn rc] 51) = x:=⟨_,rfl⟩
      rw [hy] at kos kss hT3 ⊢
      obtain ⟨b113,hbq⟩ : ∃ p,z12.heap.size = p:=⟨_,rfl⟩
      rw [hbq] at kss hb113 ⊢
      clear hy hbq
      have hSn:=hT3
      clear hS
      refine Onward.on hSn (fun hS => ?_)
      try dsimp only at hS
      clear hSn
      try simp only [Act.put,Sp1,Sp2,Sp3,Sp4,Sp5,Sp6]
      refine AnyG.one (i:=14) (by as_aux_lemma => kernel_rfl) rfl rfl ?_
      go_simp
      have kps:=Bx.new z20 3 #[.int .i64 price,.int .i64 q,.int .i64 q,.int .i64 price,.int .i64 (q + rb)]
      have hT3:=hS.alloc (.cells #[.int .i64 price,.int .i64 q,.int .i64 q,.int .i64 price,.int .i64 (q + rb)] 3)
      have hb107:=hS.size
      replace kos:=kos.alloc (.cells #[.int .i64 price,.int .i64 q,.int .i64 q,.int .i64 price,.int .i64 (q + rb)] 3)
      replace kss:=kss.alloc (.cells #[.int .i64 price,.int .i64 q,.int .i64 q,.int .i64 price,.int .i64 (q + rb)] 3)
      obtain ⟨z14,hy⟩ : ∃ x,z20.alloc (.cells #[.int .i64 price,.int .i64 q,.int .i64 q,.int .i64 price,.int .i64 (q + rb)] 3) = x:=⟨_,rfl⟩
      rw [hy] at kos kss kps hT3 ⊢
      obtain ⟨b107,hbq⟩ : ∃ p,z20.heap.size = p:=⟨_,rfl⟩
      rw [hbq] at kps hb107 ⊢
      clear hy hbq
      have hSn:=hT3
      clear hS
      refine Onward.on hSn (fun hS => ?_)
      try dsimp only at hS
      clear hSn
      try simp only [Act.put,Sp1,Sp2,Sp3,Sp4,Sp5,Sp6]
      refine AnyG.one (i:=22) (by as_aux_lemma => kernel_rfl) rfl rfl ?_
      go_simp
      refine Onward.on hS (fun hS2 => ?_)
      clear hS2
      try simp only [Act.put,Sp1,Sp2,Sp3,Sp4,Sp5,Sp6]
      refine AnyG.one (i:=23) (by as_aux_lemma => kernel_rfl) rfl rfl ?_
      go_simp
      refine Onward.on hS (fun hS2 => ?_)
      clear hS2
      try simp only [Act.put,Sp1,Sp2,Sp3,Sp4,Sp5,Sp6]
      refine AnyG.done (by as_aux_lemma => kernel_rfl) ?_ _
      have hT:=hS
      clear hS
      go_simp
      go_wp2_with fail
      go_meet
      exact ⟨b98,b107,b113,rb,rfl,rfl,rfl,kos,kps,kss,hT⟩
   ·refine ⟨_,rfl,rfl,?_⟩
    go_simp
    have kss:=Bx.new z5 51 #[.slice PA pl pc,.slice RA rn rc,.slice OA rn oc,.slice PA pl pc,.slice RA rn rc]
    have hT3:=hS.alloc (.cells #[.slice PA pl pc,.slice RA rn rc,.slice OA rn oc,.slice PA pl pc,.slice RA rn rc] 51)
    have hb113:=hS.size
    replace kos:=kos.alloc (.cells #[.slice PA pl pc,.slice RA rn rc,.slice OA rn oc,.slice PA pl pc,.slice RA rn rc] 51)
    obtain ⟨z20,hy⟩ : ∃ x,z5.alloc (.cells #[.slice PA pl pc,.slice RA rn rc,.slice OA rn oc,.slice PA pl pc,.slice RA rn rc] 51) = x:=⟨_,rfl⟩
    rw [hy] at kos kss hT3 ⊢
    obtain ⟨b113,hbq⟩ : ∃ p,z5.heap.size = p:=⟨_,rfl⟩
    rw [hbq] at kss hb113 ⊢
    clear hy hbq
    have hSn:=hT3
    clear hS
    refine Onward.on hSn (fun hS => ?_)
    try dsimp only at hS
    clear hSn
    try simp only [Act.put,Sp1,Sp2,Sp3,Sp4,Sp5,Sp6]
    refine AnyG.one (i:=12) (by as_aux_lemma => kernel_rfl) rfl rfl ?_
    go_simp
    refine (below_any g 9 _ hS.2 (by omega) (by omega)).mono ?_
    rintro e12 z12 ⟨⟨rb,rfl,rb1,rb2⟩,hF12,hg12⟩
    have hbw : IntKind.i64.wrap (q + rb) = q + rb:=IntWalk.i64_in _ (by omega)
    replace kos:=kos.grown hg12 (by have:=hF10.lt; simp; omega)
    replace kss:=kss.grown hg12 (by have:=hF10.lt; simp; omega)
    have hSn:=(hS.call hg12 hF12)
    clear hS
    refine Onward.on hSn (fun hS => ?_)
    try dsimp only at hS
    clear hSn
    try simp only [Act.put,Sp1,Sp2,Sp3,Sp4,Sp5,Sp6]
    refine AnyG.takeC (i:=13) (v:=?_) rfl (by as_aux_lemma => kernel_rfl) (fun _ _ _ h => h) rfl ?_ hS ?_
    rotate_left
    ·(intro w' hSw; (try dsimp only at hSw); go_simp; try with_reducible rfl)
    try simp only [Act.put,Sp1,Sp2,Sp3,Sp4,Sp5,Sp6]
    refine AnyG.all (rs:=[14,21]) (by as_aux_lemma => kernel_rfl) (by simp) ?_
    intro ii hii
    simp only [List.mem_cons,List.not_mem_nil,or_false] at hii
    rcases hii with rfl | rfl
    ·refine ⟨_,rfl,rfl,?_⟩
     go_simp
     have kps:=Bx.new z12 3 #[.int .i64 price,.int .i64 q,.int .i64 q,.int .i64 price,.int .i64 (q + rb)]
     have hT3:=hS.alloc (.cells #[.int .i64 price,.int .i64 q,.int .i64 q,.int .i64 price,.int .i64 (q + rb)] 3)
     have hb107:=hS.size
     replace kos:=kos.alloc (.cells #[.int .i64 price,.int .i64 q,.int .i64 q,.int .i64 price,.int .i64 (q + rb)] 3)
     replace kss:=kss.alloc (.cells #[.int .i64 price,.int .i64 q,.int .i64 q,.int .i64 price,.int .i64 (q + rb)] 3)
     obtain ⟨z14,hy⟩ : ∃ x,z12.alloc (.cells #[.int .i64 price,.int .i64 q,.int .i64 q,.int .i64 price,.int .i64 (q + rb)] 3) = x:=⟨_,rfl⟩
     rw [hy] at kos kss kps hT3 ⊢
     obtain ⟨b107,hbq⟩ : ∃ p,z12.heap.size = p:=⟨_,rfl⟩
     rw [hbq] at kps hb107 ⊢
     clear hy hbq
     have hSn:=hT3
     clear hS
     refine Onward.on hSn (fun hS => ?_)
     try dsimp only at hS
     clear hSn
     try simp only [Act.put,Sp1,Sp2,Sp3,Sp4,Sp5,Sp6]
     refine AnyG.castL (L':=#[true,true,true,true,true,true,true,true,true,true,true,true,true,true,true,true,true,true,true,true,true,false,false,false]) (by as_aux_lemma => kernel_rfl) ?_
     exact tail z14 b98 b107 b113 rb ⟨hS,kos,kps,kss⟩
    ·refine ⟨_,rfl,rfl,?_⟩
     go_simp
     refine Onward.on hS (fun hS2 => ?_)
     clear hS2
     try simp only [Act.put,Sp1,Sp2,Sp3,Sp4,Sp5,Sp6]
     refine AnyG.one (i:=14) (by as_aux_lemma => kernel_rfl) rfl rfl ?_
     go_simp
     have kps:=Bx.new z12 3 #[.int .i64 price,.int .i64 q,.int .i64 q,.int .i64 price,.int .i64 (q + rb)]
     have hT3:=hS.alloc (.cells #[.int .i64 price,.int .i64 q,.int .i64 q,.int .i64 price,.int .i64 (q + rb)] 3)
     have hb107:=hS.size
     replace kos:=kos.alloc (.cells #[.int .i64 price,.int .i64 q,.int .i64 q,.int .i64 price,.int .i64 (q + rb)] 3)
     replace kss:=kss.alloc (.cells #[.int .i64 price,.int .i64 q,.int .i64 q,.int .i64 price,.int .i64 (q + rb)] 3)
     obtain ⟨z14,hy⟩ : ∃ x,z12.alloc (.cells #[.int .i64 price,.int .i64 q,.int .i64 q,.int .i64 price,.int .i64 (q + rb)] 3) = x:=⟨_,rfl⟩
     rw [hy] at kos kss kps hT3 ⊢
     obtain ⟨b107,hbq⟩ : ∃ p,z12.heap.size = p:=⟨_,rfl⟩
     rw [hbq] at kps hb107 ⊢
     clear hy hbq
     have hSn:=hT3
     clear hS
     refine Onward.on hSn (fun hS => ?_)
     try dsimp only at hS
     clear hSn
     try simp only [Act.put,Sp1,Sp2,Sp3,Sp4,Sp5,Sp6]
     refine AnyG.one (i:=22) (by as_aux_lemma => kernel_rfl) rfl rfl ?_
     go_simp
     refine Onward.on hS (fun hS2 => ?_)
     clear hS2
     try simp only [Act.put,Sp1,Sp2,Sp3,Sp4,Sp5,Sp6]
     refine AnyG.one (i:=23) (by as_aux_lemma => kernel_rfl) rfl rfl ?_
     go_simp
     refine Onward.on hS (fun hS2 => ?_)
     clear hS2
     try simp only [Act.put,Sp1,Sp2,Sp3,Sp4,Sp5,Sp6]
     refine AnyG.done (by as_aux_lemma => kernel_rfl) ?_ _
     have hT:=hS
     clear hS
     go_simp
     go_wp2_with fail
     go_meet
     exact ⟨b98,b107,b113,rb,rfl,rfl,rfl,kos,kps,kss,hT⟩
  ·refine ⟨_,rfl,rfl,?_⟩
   go_simp
   refine (below_any g 9 _ hS.2 (by omega) (by omega)).mono ?_
   rintro e12 z12 ⟨⟨rb,rfl,rb1,rb2⟩,hF12,hg12⟩
   have hbw : IntKind.i64.wrap (q + rb) = q + rb:=IntWalk.i64_in _ (by omega)
   have hSn:=(hS.call hg12 hF12)
   clear hS
   refine Onward.on hSn (fun hS => ?_)
   try dsimp only at hS
   clear hSn
   try simp only [Act.put,Sp1,Sp2,Sp3,Sp4,Sp5,Sp6]
   refine AnyG.takeC (i:=13) (v:=?_) rfl (by as_aux_lemma => kernel_rfl) (fun _ _ _ h => h) rfl ?_ hS ?_
   rotate_left
   ·(intro w' hSw; (try dsimp only at hSw); go_simp; try with_reducible rfl)
   try simp only [Act.put,Sp1,Sp2,Sp3,Sp4,Sp5,Sp6]
   refine AnyG.all (rs:=[5,14,20]) (by as_aux_lemma => kernel_rfl) (by simp) ?_
   intro ii hii
   simp only [List.mem_cons,List.not_mem_nil,or_false] at hii
   rcases hii with rfl | rfl | rfl
   ·refine ⟨_,rfl,rfl,?_⟩
    go_simp
    have kos:=Bx.new z12 27 #[.slice LA ln lc,.int .i64 o.le,.int .i64 o.mo,.slice BA bn bc,.slice MA ml mc,.int .i64 om.le,.int .i64 om.mo,.slice NA mn nc,.slice MA ml mc,.int .i64 om.le,.int .i64 om.mo,.slice NA mn nc,.slice MA ml mc,.int .i64 om.le,.int .i64 om.mo,.slice NA mn nc,.slice MA ml mc,.int .i64 om.le,.int .i64 om.mo,.slice NA mn nc]
    have hT3:=hS.alloc (.cells #[.slice LA ln lc,.int .i64 o.le,.int .i64 o.mo,.slice BA bn bc,.slice MA ml mc,.int .i64 om.le,.int .i64 om.mo,.slice NA mn nc,.slice MA ml mc,.int .i64 om.le,.int .i64 om.mo,.slice NA mn nc,.slice MA ml mc,.int .i64 om.le,.int .i64 om.mo,.slice NA mn nc,.slice MA ml mc,.int .i64 om.le,.int .i64 om.mo,.slice NA mn nc] 27)
    have hb98:=hS.size
    obtain ⟨z5,hy⟩ : ∃ x,z12.alloc (.cells #[.slice LA ln lc,.int .i64 o.le,.int .i64 o.mo,.slice BA bn bc,.slice MA ml mc,.int .i64 om.le,.int .i64 om.mo,.slice NA mn nc,.slice MA ml mc,.int .i64 om.le,.int .i64 om.mo,.slice NA mn nc,.slice MA ml mc,.int .i64 om.le,.int .i64 om.mo,.slice NA mn nc,.slice MA ml mc,.int .i64 om.le,.int .i64 om.mo,.slice NA mn nc] 27) = x:=⟨_,rfl⟩
    rw [hy] at kos hT3 ⊢
    obtain ⟨b98,hbq⟩ : ∃ p,z12.heap.size = p:=⟨_,rfl⟩
    rw [hbq] at kos hb98 ⊢
    clear hy hbq
    have hSn:=hT3
    clear hS
    refine Onward.on hSn (fun hS => ?_)
    try dsimp only at hS
    clear hSn
    try simp only [Act.put,Sp1,Sp2,Sp3,Sp4,Sp5,Sp6]
    refine AnyG.all (rs:=[14,20,21]) (by as_aux_lemma => kernel_rfl) (by simp) ?_
    intro ii hii
    simp only [List.mem_cons,List.not_mem_nil,or_false] at hii
    rcases hii with rfl | rfl | rfl
    ·refine ⟨_,rfl,rfl,?_⟩
     go_simp
     have kps:=Bx.new z5 3 #[.int .i64 price,.int .i64 q,.int .i64 q,.int .i64 price,.int .i64 (q + rb)]
     have hT3:=hS.alloc (.cells #[.int .i64 price,.int .i64 q,.int .i64 q,.int .i64 price,.int .i64 (q + rb)] 3)
     have hb107:=hS.size
     replace kos:=kos.alloc (.cells #[.int .i64 price,.int .i64 q,.int .i64 q,.int .i64 price,.int .i64 (q + rb)] 3)
     obtain ⟨z14,hy⟩ : ∃ x,z5.alloc (.cells #[.int .i64 price,.int .i64 q,.int .i64 q,.int .i64 price,.int .i64 (q + rb)] 3) = x:=⟨_,rfl⟩
     rw [hy] at kos kps hT3 ⊢
     obtain ⟨b107,hbq⟩ : ∃ p,z5.heap.size = p:=⟨_,rfl⟩
     rw [hbq] at kps hb107 ⊢
     clear hy hbq
     have hSn:=hT3
     clear hS
     refine Onward.on hSn (fun hS => ?_)
     try dsimp only at hS
     clear hSn
     try simp only [Act.put,Sp1,Sp2,Sp3,Sp4,Sp5,Sp6]
     refine AnyG.all (rs:=[20,21]) (by as_aux_lemma => kernel_rfl) (by simp) ?_
     intro ii hii
     simp only [List.mem_cons,List.not_mem_nil,or_false] at hii
     rcases hii with rfl | rfl
     ·refine ⟨_,rfl,rfl,?_⟩
      go_simp
      have kss:=Bx.new z14 51 #[.slice PA pl pc,.slice RA rn rc,.slice OA rn oc,.slice PA pl pc,.slice RA rn rc]
      have hT3:=hS.alloc (.cells #[.slice PA pl pc,.slice RA rn rc,.slice OA rn oc,.slice PA pl pc,.slice RA rn rc] 51)
      have hb113:=hS.size
      replace kos:=kos.alloc (.cells #[.slice PA pl pc,.slice RA rn rc,.slice OA rn oc,.slice PA pl pc,.slice RA rn rc] 51)
      replace kps:=kps.alloc (.cells #[.slice PA pl pc,.slice RA rn rc,.slice OA rn oc,.slice PA pl pc,.slice RA rn rc] 51)
      obtain ⟨z20,hy⟩ : ∃ x,z14.alloc (.cells #[.slice PA pl pc,.slice RA rn rc,.slice OA rn oc,.slice PA pl pc,.slice RA rn rc] 51) = x:=⟨_,rfl⟩
      rw [hy] at kos kps kss hT3 ⊢
      obtain ⟨b113,hbq⟩ : ∃ p,z14.heap.size = p:=⟨_,rfl⟩
      rw [hbq] at kss hb113 ⊢
      clear hy hbq
      have hSn:=hT3
      clear hS
      refine Onward.on hSn (fun hS => ?_)
      try dsimp only at hS
      clear hSn
      try simp only [Act.put,Sp1,Sp2,Sp3,Sp4,Sp5,Sp6]
      refine AnyG.castL (L':=#[true,true,true,true,true,true,true,true,true,true,true,true,true,true,true,true,true,true,true,true,true,false,false,false]) (by as_aux_lemma => kernel_rfl) ?_
      exact tail z20 b98 b107 b113 rb ⟨hS,kos,kps,kss⟩
     ·refine ⟨_,rfl,rfl,?_⟩
      go_simp
      refine Onward.on hS (fun hS2 => ?_)
      clear hS2
      try simp only [Act.put,Sp1,Sp2,Sp3,Sp4,Sp5,Sp6]
      refine AnyG.all (rs:=[20,22]) (by as_aux_lemma => kernel_rfl) (by simp) ?_
      intro ii hii
      simp only [List.mem_cons,List.not_mem_nil,or_false] at hii
      rcases hii with rfl | rfl
      ·refine ⟨_,rfl,rfl,?_⟩
       go_simp
       have kss:=Bx.new z14 51 #[.slice PA pl pc,.slice RA rn rc,.slice OA rn oc,.slice PA pl pc,.slice RA rn rc]
       have hT3:=hS.alloc (.cells #[.slice PA pl pc,.slice RA rn rc,.slice OA rn oc,.slice PA pl pc,.slice RA rn rc] 51)
       have hb113:=hS.size
       replace kos:=kos.alloc (.cells #[.slice PA pl pc,.slice RA rn rc,.slice OA rn oc,.slice PA pl pc,.slice RA rn rc] 51)
       replace kps:=kps.alloc (.cells #[.slice PA pl pc,.slice RA rn rc,.slice OA rn oc,.slice PA pl pc,.slice RA rn rc] 51)
       obtain ⟨z20,hy⟩ : ∃ x,z14.alloc (.cells #[.slice PA pl pc,.slice RA rn rc,.slice OA rn oc,.slice PA pl pc,.slice RA rn rc] 51) = x:=⟨_,rfl⟩
       rw [hy] at kos kps kss hT3 ⊢
       obtain ⟨b113,hbq⟩ : ∃ p,z14.heap.size = p:=⟨_,rfl⟩
       rw [hbq] at kss hb113 ⊢
       clear hy hbq
       have hSn:=hT3
       clear hS
       refine Onward.on hSn (fun hS => ?_)
       try dsimp only at hS
       clear hSn
       try simp only [Act.put,Sp1,Sp2,Sp3,Sp4,Sp5,Sp6]
       refine AnyG.one (i:=22) (by as_aux_lemma => kernel_rfl) rfl rfl ?_
       go_simp
       refine Onward.on hS (fun hS2 => ?_)
       clear hS2
       try simp only [Act.put,Sp1,Sp2,Sp3,Sp4,Sp5,Sp6]
       refine AnyG.one (i:=23) (by as_aux_lemma => kernel_rfl) rfl rfl ?_
       go_simp
       refine Onward.on hS (fun hS2 => ?_)
       clear hS2
       try simp only [Act.put,Sp1,Sp2,Sp3,Sp4,Sp5,Sp6]
       refine AnyG.done (by as_aux_lemma => kernel_rfl) ?_ _
       have hT:=hS
       clear hS
       go_simp
       go_wp2_with fail
       go_meet
       exact ⟨b98,b107,b113,rb,rfl,rfl,rfl,kos,kps,kss,hT⟩
      ·refine ⟨_,rfl,rfl,?_⟩
       go_simp
       refine Onward.on hS (fun hS2 => ?_)
       clear hS2
       try simp only [Act.put,Sp1,Sp2,Sp3,Sp4,Sp5,Sp6]
       refine AnyG.one (i:=20) (by as_aux_lemma => kernel_rfl) rfl rfl ?_
       go_simp
       have kss:=Bx.new z14 51 #[.slice PA pl pc,.slice RA rn rc,.slice OA rn oc,.slice PA pl pc,.slice RA rn rc]
       have hT3:=hS.alloc (.cells #[.slice PA pl pc,.slice RA rn rc,.slice OA rn oc,.slice PA pl pc,.slice RA rn rc] 51)
       have hb113:=hS.size
       replace kos:=kos.alloc (.cells #[.slice PA pl pc,.slice RA rn rc,.slice OA rn oc,.slice PA pl pc,.slice RA rn rc] 51)
       replace kps:=kps.alloc (.cells #[.slice PA pl pc,.slice RA rn rc,.slice OA rn oc,.slice PA pl pc,.slice RA rn rc] 51)
       obtain ⟨z20,hy⟩ : ∃ x,z14.alloc (.cells #[.slice PA pl pc,.slice RA rn rc,.slice OA rn oc,.slice PA pl pc,.slice RA rn rc] 51) = x:=⟨_,rfl⟩
       rw [hy] at kos kps kss hT3 ⊢
       obtain ⟨b113,hbq⟩ : ∃ p,z14.heap.size = p:=⟨_,rfl⟩
       rw [hbq] at kss hb113 ⊢
       clear hy hbq
       have hSn:=hT3
       clear hS
       refine Onward.on hSn (fun hS => ?_)
       try dsimp only at hS
       clear hSn
       try simp only [Act.put,Sp1,Sp2,Sp3,Sp4,Sp5,Sp6]
       refine AnyG.one (i:=23) (by as_aux_lemma => kernel_rfl) rfl rfl ?_
       go_simp
       refine Onward.on hS (fun hS2 => ?_)
       clear hS2
       try simp only [Act.put,Sp1,Sp2,Sp3,Sp4,Sp5,Sp6]
       refine AnyG.done (by as_aux_lemma => kernel_rfl) ?_ _
       have hT:=hS
       clear hS
       go_simp
       go_wp2_with fail
       go_meet
       exact ⟨b98,b107,b113,rb,rfl,rfl,rfl,kos,kps,kss,hT⟩
    ·refine ⟨_,rfl,rfl,?_⟩
     go_simp
     have kss:=Bx.new z5 51 #[.slice PA pl pc,.slice RA rn rc,.slice OA rn oc,.slice PA pl pc,.slice RA rn rc]
     have hT3:=hS.alloc (.cells #[.slice PA pl pc,.slice RA rn rc,.slice OA rn oc,.slice PA pl pc,.slice RA rn rc] 51)
     have hb113:=hS.size
     replace kos:=kos.alloc (.cells #[.slice PA pl pc,.slice RA rn rc,.slice OA rn oc,.slice PA pl pc,.slice RA rn rc] 51)
     obtain ⟨z20,hy⟩ : ∃ x,z5.alloc (.cells #[.slice PA pl pc,.slice RA rn rc,.slice OA rn oc,.slice PA pl pc,.slice RA rn rc] 51) = x:=⟨_,rfl⟩
     rw [hy] at kos kss hT3 ⊢
     obtain ⟨b113,hbq⟩ : ∃ p,z5.heap.size = p:=⟨_,rfl⟩
     rw [hbq] at kss hb113 ⊢
     clear hy hbq
     have hSn:=hT3
     clear hS
     refine Onward.on hSn (fun hS => ?_)
     try dsimp only at hS
     clear hSn
     try simp only [Act.put,Sp1,Sp2,Sp3,Sp4,Sp5,Sp6]
     refine AnyG.all (rs:=[14,21]) (by as_aux_lemma => kernel_rfl) (by simp) ?_
     intro ii hii
     simp only [List.mem_cons,List.not_mem_nil,or_false] at hii
     rcases hii with rfl | rfl
     ·refine ⟨_,rfl,rfl,?_⟩
      go_simp
      have kps:=Bx.new z20 3 #[.int .i64 price,.int .i64 q,.int .i64 q,.int .i64 price,.int .i64 (q + rb)]
      have hT3:=hS.alloc (.cells #[.int .i64 price,.int .i64 q,.int .i64 q,.int .i64 price,.int .i64 (q + rb)] 3)
      have hb107:=hS.size
      replace kos:=kos.alloc (.cells #[.int .i64 price,.int .i64 q,.int .i64 q,.int .i64 price,.int .i64 (q + rb)] 3)
      replace kss:=kss.alloc (.cells #[.int .i64 price,.int .i64 q,.int .i64 q,.int .i64 price,.int .i64 (q + rb)] 3)
      obtain ⟨z14,hy⟩ : ∃ x,z20.alloc (.cells #[.int .i64 price,.int .i64 q,.int .i64 q,.int .i64 price,.int .i64 (q + rb)] 3) = x:=⟨_,rfl⟩
      rw [hy] at kos kss kps hT3 ⊢
      obtain ⟨b107,hbq⟩ : ∃ p,z20.heap.size = p:=⟨_,rfl⟩
      rw [hbq] at kps hb107 ⊢
      clear hy hbq
      have hSn:=hT3
      clear hS
      refine Onward.on hSn (fun hS => ?_)
      try dsimp only at hS
      clear hSn
      try simp only [Act.put,Sp1,Sp2,Sp3,Sp4,Sp5,Sp6]
      refine AnyG.castL (L':=#[true,true,true,true,true,true,true,true,true,true,true,true,true,true,true,true,true,true,true,true,true,false,false,false]) (by as_aux_lemma => kernel_rfl) ?_
      exact tail z14 b98 b107 b113 rb ⟨hS,kos,kps,kss⟩
     ·refine ⟨_,rfl,rfl,?_⟩
      go_simp
      refine Onward.on hS (fun hS2 => ?_)
      clear hS2
      try simp only [Act.put,Sp1,Sp2,Sp3,Sp4,Sp5,Sp6]
      refine AnyG.one (i:=14) (by as_aux_lemma => kernel_rfl) rfl rfl ?_
      go_simp
      have kps:=Bx.new z20 3 #[.int .i64 price,.int .i64 q,.int .i64 q,.int .i64 price,.int .i64 (q + rb)]
      have hT3:=hS.alloc (.cells #[.int .i64 price,.int .i64 q,.int .i64 q,.int .i64 price,.int .i64 (q + rb)] 3)
      have hb107:=hS.size
      replace kos:=kos.alloc (.cells #[.int .i64 price,.int .i64 q,.int .i64 q,.int .i64 price,.int .i64 (q + rb)] 3)
      replace kss:=kss.alloc (.cells #[.int .i64 price,.int .i64 q,.int .i64 q,.int .i64 price,.int .i64 (q + rb)] 3)
      obtain ⟨z14,hy⟩ : ∃ x,z20.alloc (.cells #[.int .i64 price,.int .i64 q,.int .i64 q,.int .i64 price,.int .i64 (q + rb)] 3) = x:=⟨_,rfl⟩
      rw [hy] at kos kss kps hT3 ⊢
      obtain ⟨b107,hbq⟩ : ∃ p,z20.heap.size = p:=⟨_,rfl⟩
      rw [hbq] at kps hb107 ⊢
      clear hy hbq
      have hSn:=hT3
      clear hS
      refine Onward.on hSn (fun hS => ?_)
      try dsimp only at hS
      clear hSn
      try simp only [Act.put,Sp1,Sp2,Sp3,Sp4,Sp5,Sp6]
      refine AnyG.one (i:=22) (by as_aux_lemma => kernel_rfl) rfl rfl ?_
      go_simp
      refine Onward.on hS (fun hS2 => ?_)
      clear hS2
      try simp only [Act.put,Sp1,Sp2,Sp3,Sp4,Sp5,Sp6]
      refine AnyG.one (i:=23) (by as_aux_lemma => kernel_rfl) rfl rfl ?_
      go_simp
      refine Onward.on hS (fun hS2 => ?_)
      clear hS2
      try simp only [Act.put,Sp1,Sp2,Sp3,Sp4,Sp5,Sp6]
      refine AnyG.done (by as_aux_lemma => kernel_rfl) ?_ _
      have hT:=hS
      clear hS
      go_simp
      go_wp2_with fail
      go_meet
      exact ⟨b98,b107,b113,rb,rfl,rfl,rfl,kos,kps,kss,hT⟩
    ·refine ⟨_,rfl,rfl,?_⟩
     go_simp
     refine Onward.on hS (fun hS2 => ?_)
     clear hS2
     try simp only [Act.put,Sp1,Sp2,Sp3,Sp4,Sp5,Sp6]
     refine AnyG.all (rs:=[14,20]) (by as_aux_lemma => kernel_rfl) (by simp) ?_
     intro ii hii
     simp only [List.mem_cons,List.not_mem_nil,or_false] at hii
     rcases hii with rfl | rfl
     ·refine ⟨_,rfl,rfl,?_⟩
      go_simp
      have kps:=Bx.new z5 3 #[.int .i64 price,.int .i64 q,.int .i64 q,.int .i64 price,.int .i64 (q + rb)]
      have hT3:=hS.alloc (.cells #[.int .i64 price,.int .i64 q,.int .i64 q,.int .i64 price,.int .i64 (q + rb)] 3)
      have hb107:=hS.size
      replace kos:=kos.alloc (.cells #[.int .i64 price,.int .i64 q,.int .i64 q,.int .i64 price,.int .i64 (q + rb)] 3)
      obtain ⟨z14,hy⟩ : ∃ x,z5.alloc (.cells #[.int .i64 price,.int .i64 q,.int .i64 q,.int .i64 price,.int .i64 (q + rb)] 3) = x:=⟨_,rfl⟩
      rw [hy] at kos kps hT3 ⊢
      obtain ⟨b107,hbq⟩ : ∃ p,z5.heap.size = p:=⟨_,rfl⟩
      rw [hbq] at kps hb107 ⊢
      clear hy hbq
      have hSn:=hT3
      clear hS
      refine Onward.on hSn (fun hS => ?_)
      try dsimp only at hS
      clear hSn
      try simp only [Act.put,Sp1,Sp2,Sp3,Sp4,Sp5,Sp6]
      refine AnyG.all (rs:=[20,22]) (by as_aux_lemma => kernel_rfl) (by simp) ?_
      intro ii hii
      simp only [List.mem_cons,List.not_mem_nil,or_false] at hii
      rcases hii with rfl | rfl
      ·refine ⟨_,rfl,rfl,?_⟩
       go_simp
       have kss:=Bx.new z14 51 #[.slice PA pl pc,.slice RA rn rc,.slice OA rn oc,.slice PA pl pc,.slice RA rn rc]
       have hT3:=hS.alloc (.cells #[.slice PA pl pc,.slice RA rn rc,.slice OA rn oc,.slice PA pl pc,.slice RA rn rc] 51)
       have hb113:=hS.size
       replace kos:=kos.alloc (.cells #[.slice PA pl pc,.slice RA rn rc,.slice OA rn oc,.slice PA pl pc,.slice RA rn rc] 51)
       replace kps:=kps.alloc (.cells #[.slice PA pl pc,.slice RA rn rc,.slice OA rn oc,.slice PA pl pc,.slice RA rn rc] 51)
       obtain ⟨z20,hy⟩ : ∃ x,z14.alloc (.cells #[.slice PA pl pc,.slice RA rn rc,.slice OA rn oc,.slice PA pl pc,.slice RA rn rc] 51) = x:=⟨_,rfl⟩
       rw [hy] at kos kps kss hT3 ⊢
       obtain ⟨b113,hbq⟩ : ∃ p,z14.heap.size = p:=⟨_,rfl⟩
       rw [hbq] at kss hb113 ⊢
       clear hy hbq
       have hSn:=hT3
       clear hS
       refine Onward.on hSn (fun hS => ?_)
       try dsimp only at hS
       clear hSn
       try simp only [Act.put,Sp1,Sp2,Sp3,Sp4,Sp5,Sp6]
       refine AnyG.one (i:=22) (by as_aux_lemma => kernel_rfl) rfl rfl ?_
       go_simp
       refine Onward.on hS (fun hS2 => ?_)
       clear hS2
       try simp only [Act.put,Sp1,Sp2,Sp3,Sp4,Sp5,Sp6]
       refine AnyG.one (i:=23) (by as_aux_lemma => kernel_rfl) rfl rfl ?_
       go_simp
       refine Onward.on hS (fun hS2 => ?_)
       clear hS2
       try simp only [Act.put,Sp1,Sp2,Sp3,Sp4,Sp5,Sp6]
       refine AnyG.done (by as_aux_lemma => kernel_rfl) ?_ _
       have hT:=hS
       clear hS
       go_simp
       go_wp2_with fail
       go_meet
       exact ⟨b98,b107,b113,rb,rfl,rfl,rfl,kos,kps,kss,hT⟩
      ·refine ⟨_,rfl,rfl,?_⟩
       go_simp
       refine Onward.on hS (fun hS2 => ?_)
       clear hS2
       try simp only [Act.put,Sp1,Sp2,Sp3,Sp4,Sp5,Sp6]
       refine AnyG.one (i:=20) (by as_aux_lemma => kernel_rfl) rfl rfl ?_
       go_simp
       have kss:=Bx.new z14 51 #[.slice PA pl pc,.slice RA rn rc,.slice OA rn oc,.slice PA pl pc,.slice RA rn rc]
       have hT3:=hS.alloc (.cells #[.slice PA pl pc,.slice RA rn rc,.slice OA rn oc,.slice PA pl pc,.slice RA rn rc] 51)
       have hb113:=hS.size
       replace kos:=kos.alloc (.cells #[.slice PA pl pc,.slice RA rn rc,.slice OA rn oc,.slice PA pl pc,.slice RA rn rc] 51)
       replace kps:=kps.alloc (.cells #[.slice PA pl pc,.slice RA rn rc,.slice OA rn oc,.slice PA pl pc,.slice RA rn rc] 51)
       obtain ⟨z20,hy⟩ : ∃ x,z14.alloc (.cells #[.slice PA pl pc,.slice RA rn rc,.slice OA rn oc,.slice PA pl pc,.slice RA rn rc] 51) = x:=⟨_,rfl⟩
       rw [hy] at kos kps kss hT3 ⊢
       obtain ⟨b113,hbq⟩ : ∃ p,z14.heap.size = p:=⟨_,rfl⟩
       rw [hbq] at kss hb113 ⊢
       clear hy hbq
       have hSn:=hT3
       clear hS
       refine Onward.on hSn (fun hS => ?_)
       try dsimp only at hS
       clear hSn
       try simp only [Act.put,Sp1,Sp2,Sp3,Sp4,Sp5,Sp6]
       refine AnyG.one (i:=23) (by as_aux_lemma => kernel_rfl) rfl rfl ?_
       go_simp
       refine Onward.on hS (fun hS2 => ?_)
       clear hS2
       try simp only [Act.put,Sp1,Sp2,Sp3,Sp4,Sp5,Sp6]
       refine AnyG.done (by as_aux_lemma => kernel_rfl) ?_ _
       have hT:=hS
       clear hS
       go_simp
       go_wp2_with fail
       go_meet
       exact ⟨b98,b107,b113,rb,rfl,rfl,rfl,kos,kps,kss,hT⟩
     ·refine ⟨_,rfl,rfl,?_⟩
      go_simp
      have kss:=Bx.new z5 51 #[.slice PA pl pc,.slice RA rn rc,.slice OA rn oc,.slice PA pl pc,.slice RA rn rc]
      have hT3:=hS.alloc (.cells #[.slice PA pl pc,.slice RA rn rc,.slice OA rn oc,.slice PA pl pc,.slice RA rn rc] 51)
      have hb113:=hS.size
      replace kos:=kos.alloc (.cells #[.slice PA pl pc,.slice RA rn rc,.slice OA rn oc,.slice PA pl pc,.slice RA rn rc] 51)
      obtain ⟨z20,hy⟩ : ∃ x,z5.alloc (.cells #[.slice PA pl pc,.slice RA rn rc,.slice OA rn oc,.slice PA pl pc,.slice RA rn rc] 51) = x:=⟨_,rfl⟩
      rw [hy] at kos kss hT3 ⊢
      obtain ⟨b113,hbq⟩ : ∃ p,z5.heap.size = p:=⟨_,rfl⟩
      rw [hbq] at kss hb113 ⊢
      clear hy hbq
      have hSn:=hT3
      clear hS
      refine Onward.on hSn (fun hS => ?_)
      try dsimp only at hS
      clear hSn
      try simp only [Act.put,Sp1,Sp2,Sp3,Sp4,Sp5,Sp6]
      refine AnyG.one (i:=14) (by as_aux_lemma => kernel_rfl) rfl rfl ?_
      go_simp
      have kps:=Bx.new z20 3 #[.int .i64 price,.int .i64 q,.int .i64 q,.int .i64 price,.int .i64 (q + rb)]
      have hT3:=hS.alloc (.cells #[.int .i64 price,.int .i64 q,.int .i64 q,.int .i64 price,.int .i64 (q + rb)] 3)
      have hb107:=hS.size
      replace kos:=kos.alloc (.cells #[.int .i64 price,.int .i64 q,.int .i64 q,.int .i64 price,.int .i64 (q + rb)] 3)
      replace kss:=kss.alloc (.cells #[.int .i64 price,.int .i64 q,.int .i64 q,.int .i64 price,.int .i64 (q + rb)] 3)
      obtain ⟨z14,hy⟩ : ∃ x,z20.alloc (.cells #[.int .i64 price,.int .i64 q,.int .i64 q,.int .i64 price,.int .i64 (q + rb)] 3) = x:=⟨_,rfl⟩
      rw [hy] at kos kss kps hT3 ⊢
      obtain ⟨b107,hbq⟩ : ∃ p,z20.heap.size = p:=⟨_,rfl⟩
      rw [hbq] at kps hb107 ⊢
      clear hy hbq
      have hSn:=hT3
      clear hS
      refine Onward.on hSn (fun hS => ?_)
      try dsimp only at hS
      clear hSn
      try simp only [Act.put,Sp1,Sp2,Sp3,Sp4,Sp5,Sp6]
      refine AnyG.one (i:=22) (by as_aux_lemma => kernel_rfl) rfl rfl ?_
      go_simp
      refine Onward.on hS (fun hS2 => ?_)
      clear hS2
      try simp only [Act.put,Sp1,Sp2,Sp3,Sp4,Sp5,Sp6]
      refine AnyG.one (i:=23) (by as_aux_lemma => kernel_rfl) rfl rfl ?_
      go_simp
      refine Onward.on hS (fun hS2 => ?_)
      clear hS2
      try simp only [Act.put,Sp1,Sp2,Sp3,Sp4,Sp5,Sp6]
      refine AnyG.done (by as_aux_lemma => kernel_rfl) ?_ _
      have hT:=hS
      clear hS
      go_simp
      go_wp2_with fail
      go_meet
      exact ⟨b98,b107,b113,rb,rfl,rfl,rfl,kos,kps,kss,hT⟩
   ·refine ⟨_,rfl,rfl,?_⟩
    go_simp
    have kps:=Bx.new z12 3 #[.int .i64 price,.int .i64 q,.int .i64 q,.int .i64 price,.int .i64 (q + rb)]
    have hT3:=hS.alloc (.cells #[.int .i64 price,.int .i64 q,.int .i64 q,.int .i64 price,.int .i64 (q + rb)] 3)
    have hb107:=hS.size
    obtain ⟨z14,hy⟩ : ∃ x,z12.alloc (.cells #[.int .i64 price,.int .i64 q,.int .i64 q,.int .i64 price,.int .i64 (q + rb)] 3) = x:=⟨_,rfl⟩
    rw [hy] at kps hT3 ⊢
    obtain ⟨b107,hbq⟩ : ∃ p,z12.heap.size = p:=⟨_,rfl⟩
    rw [hbq] at kps hb107 ⊢
    clear hy hbq
    have hSn:=hT3
    clear hS
    refine Onward.on hSn (fun hS => ?_)
    try dsimp only at hS
    clear hSn
    try simp only [Act.put,Sp1,Sp2,Sp3,Sp4,Sp5,Sp6]
    refine AnyG.all (rs:=[5,20]) (by as_aux_lemma => kernel_rfl) (by simp) ?_
    intro ii hii
    simp only [List.mem_cons,List.not_mem_nil,or_false] at hii
    rcases hii with rfl | rfl
    ·refine ⟨_,rfl,rfl,?_⟩
     go_simp
     have kos:=Bx.new z14 27 #[.slice LA ln lc,.int .i64 o.le,.int .i64 o.mo,.slice BA bn bc,.slice MA ml mc,.int .i64 om.le,.int .i64 om.mo,.slice NA mn nc,.slice MA ml mc,.int .i64 om.le,.int .i64 om.mo,.slice NA mn nc,.slice MA ml mc,.int .i64 om.le,.int .i64 om.mo,.slice NA mn nc,.slice MA ml mc,.int .i64 om.le,.int .i64 om.mo,.slice NA mn nc]
     have hT3:=hS.alloc (.cells #[.slice LA ln lc,.int .i64 o.le,.int .i64 o.mo,.slice BA bn bc,.slice MA ml mc,.int .i64 om.le,.int .i64 om.mo,.slice NA mn nc,.slice MA ml mc,.int .i64 om.le,.int .i64 om.mo,.slice NA mn nc,.slice MA ml mc,.int .i64 om.le,.int .i64 om.mo,.slice NA mn nc,.slice MA ml mc,.int .i64 om.le,.int .i64 om.mo,.slice NA mn nc] 27)
     have hb98:=hS.size
     replace kps:=kps.alloc (.cells #[.slice LA ln lc,.int .i64 o.le,.int .i64 o.mo,.slice BA bn bc,.slice MA ml mc,.int .i64 om.le,.int .i64 om.mo,.slice NA mn nc,.slice MA ml mc,.int .i64 om.le,.int .i64 om.mo,.slice NA mn nc,.slice MA ml mc,.int .i64 om.le,.int .i64 om.mo,.slice NA mn nc,.slice MA ml mc,.int .i64 om.le,.int .i64 om.mo,.slice NA mn nc] 27)
     obtain ⟨z5,hy⟩ : ∃ x,z14.alloc (.cells #[.slice LA ln lc,.int .i64 o.le,.int .i64 o.mo,.slice BA bn bc,.slice MA ml mc,.int .i64 om.le,.int .i64 om.mo,.slice NA mn nc,.slice MA ml mc,.int .i64 om.le,.int .i64 om.mo,.slice NA mn nc,.slice MA ml mc,.int .i64 om.le,.int .i64 om.mo,.slice NA mn nc,.slice MA ml mc,.int .i64 om.le,.int .i64 om.mo,.slice NA mn nc] 27) = x:=⟨_,rfl⟩
     rw [hy] at kps kos hT3 ⊢
     obtain ⟨b98,hbq⟩ : ∃ p,z14.heap.size = p:=⟨_,rfl⟩
     rw [hbq] at kos hb98 ⊢
     clear hy hbq
     have hSn:=hT3
     clear hS
     refine Onward.on hSn (fun hS => ?_)
     try dsimp only at hS
     clear hSn
     try simp only [Act.put,Sp1,Sp2,Sp3,Sp4,Sp5,Sp6]
     refine AnyG.all (rs:=[20,21]) (by as_aux_lemma => kernel_rfl) (by simp) ?_
     intro ii hii
     simp only [List.mem_cons,List.not_mem_nil,or_false] at hii
     rcases hii with rfl | rfl
     ·refine ⟨_,rfl,rfl,?_⟩
      go_simp
      have kss:=Bx.new z5 51 #[.slice PA pl pc,.slice RA rn rc,.slice OA rn oc,.slice PA pl pc,.slice RA rn rc]
      have hT3:=hS.alloc (.cells #[.slice PA pl pc,.slice RA rn rc,.slice OA rn oc,.slice PA pl pc,.slice RA rn rc] 51)
      have hb113:=hS.size
      replace kos:=kos.alloc (.cells #[.slice PA pl pc,.slice RA rn rc,.slice OA rn oc,.slice PA pl pc,.slice RA rn rc] 51)
      replace kps:=kps.alloc (.cells #[.slice PA pl pc,.slice RA rn rc,.slice OA rn oc,.slice PA pl pc,.slice RA rn rc] 51)
      obtain ⟨z20,hy⟩ : ∃ x,z5.alloc (.cells #[.slice PA pl pc,.slice RA rn rc,.slice OA rn oc,.slice PA pl pc,.slice RA rn rc] 51) = x:=⟨_,rfl⟩
      rw [hy] at kos kps kss hT3 ⊢
      obtain ⟨b113,hbq⟩ : ∃ p,z5.heap.size = p:=⟨_,rfl⟩
      rw [hbq] at kss hb113 ⊢
      clear hy hbq
      have hSn:=hT3
      clear hS
      refine Onward.on hSn (fun hS => ?_)
      try dsimp only at hS
      clear hSn
      try simp only [Act.put,Sp1,Sp2,Sp3,Sp4,Sp5,Sp6]
      refine AnyG.castL (L':=#[true,true,true,true,true,true,true,true,true,true,true,true,true,true,true,true,true,true,true,true,true,false,false,false]) (by as_aux_lemma => kernel_rfl) ?_
      exact tail z20 b98 b107 b113 rb ⟨hS,kos,kps,kss⟩
     ·refine ⟨_,rfl,rfl,?_⟩
      go_simp
      refine Onward.on hS (fun hS2 => ?_)
      clear hS2
      try simp only [Act.put,Sp1,Sp2,Sp3,Sp4,Sp5,Sp6]
      refine AnyG.all (rs:=[20,22]) (by as_aux_lemma => kernel_rfl) (by simp) ?_
      intro ii hii
      simp only [List.mem_cons,List.not_mem_nil,or_false] at hii
      rcases hii with rfl | rfl
      ·refine ⟨_,rfl,rfl,?_⟩
       go_simp
       have kss:=Bx.new z5 51 #[.slice PA pl pc,.slice RA rn rc,.slice OA rn oc,.slice PA pl pc,.slice RA rn rc]
       have hT3:=hS.alloc (.cells #[.slice PA pl pc,.slice RA rn rc,.slice OA rn oc,.slice PA pl pc,.slice RA rn rc] 51)
       have hb113:=hS.size
       replace kos:=kos.alloc (.cells #[.slice PA pl pc,.slice RA rn rc,.slice OA rn oc,.slice PA pl pc,.slice RA rn rc] 51)
       replace kps:=kps.alloc (.cells #[.slice PA pl pc,.slice RA rn rc,.slice OA rn oc,.slice PA pl pc,.slice RA rn rc] 51)
       obtain ⟨z20,hy⟩ : ∃ x,z5.alloc (.cells #[.slice PA pl pc,.slice RA rn rc,.slice OA rn oc,.slice PA pl pc,.slice RA rn rc] 51) = x:=⟨_,rfl⟩
       rw [hy] at kos kps kss hT3 ⊢
       obtain ⟨b113,hbq⟩ : ∃ p,z5.heap.size = p:=⟨_,rfl⟩
       rw [hbq] at kss hb113 ⊢
       clear hy hbq
       have hSn:=hT3
       clear hS
       refine Onward.on hSn (fun hS => ?_)
       try dsimp only at hS
       clear hSn
       try simp only [Act.put,Sp1,Sp2,Sp3,Sp4,Sp5,Sp6]
       refine AnyG.one (i:=22) (by as_aux_lemma => kernel_rfl) rfl rfl ?_
       go_simp
       refine Onward.on hS (fun hS2 => ?_)
       clear hS2
       try simp only [Act.put,Sp1,Sp2,Sp3,Sp4,Sp5,Sp6]
       refine AnyG.one (i:=23) (by as_aux_lemma => kernel_rfl) rfl rfl ?_
       go_simp
       refine Onward.on hS (fun hS2 => ?_)
       clear hS2
       try simp only [Act.put,Sp1,Sp2,Sp3,Sp4,Sp5,Sp6]
       refine AnyG.done (by as_aux_lemma => kernel_rfl) ?_ _
       have hT:=hS
       clear hS
       go_simp
       go_wp2_with fail
       go_meet
       exact ⟨b98,b107,b113,rb,rfl,rfl,rfl,kos,kps,kss,hT⟩
      ·refine ⟨_,rfl,rfl,?_⟩
       go_simp
       refine Onward.on hS (fun hS2 => ?_)
       clear hS2
       try simp only [Act.put,Sp1,Sp2,Sp3,Sp4,Sp5,Sp6]
       refine AnyG.one (i:=20) (by as_aux_lemma => kernel_rfl) rfl rfl ?_
       go_simp
       have kss:=Bx.new z5 51 #[.slice PA pl pc,.slice RA rn rc,.slice OA rn oc,.slice PA pl pc,.slice RA rn rc]
       have hT3:=hS.alloc (.cells #[.slice PA pl pc,.slice RA rn rc,.slice OA rn oc,.slice PA pl pc,.slice RA rn rc] 51)
       have hb113:=hS.size
       replace kos:=kos.alloc (.cells #[.slice PA pl pc,.slice RA rn rc,.slice OA rn oc,.slice PA pl pc,.slice RA rn rc] 51)
       replace kps:=kps.alloc (.cells #[.slice PA pl pc,.slice RA rn rc,.slice OA rn oc,.slice PA pl pc,.slice RA rn rc] 51)
       obtain ⟨z20,hy⟩ : ∃ x,z5.alloc (.cells #[.slice PA pl pc,.slice RA rn rc,.slice OA rn oc,.slice PA pl pc,.slice RA rn rc] 51) = x:=⟨_,rfl⟩
       rw [hy] at kos kps kss hT3 ⊢
       obtain ⟨b113,hbq⟩ : ∃ p,z5.heap.size = p:=⟨_,rfl⟩
       rw [hbq] at kss hb113 ⊢
       clear hy hbq
       have hSn:=hT3
       clear hS
       refine Onward.on hSn (fun hS => ?_)
       try dsimp only at hS
       clear hSn
       try simp only [Act.put,Sp1,Sp2,Sp3,Sp4,Sp5,Sp6]
       refine AnyG.one (i:=23) (by as_aux_lemma => kernel_rfl) rfl rfl ?_
       go_simp
       refine Onward.on hS (fun hS2 => ?_)
       clear hS2
       try simp only [Act.put,Sp1,Sp2,Sp3,Sp4,Sp5,Sp6]
       refine AnyG.done (by as_aux_lemma => kernel_rfl) ?_ _
       have hT:=hS
       clear hS
       go_simp
       go_wp2_with fail
       go_meet
       exact ⟨b98,b107,b113,rb,rfl,rfl,rfl,kos,kps,kss,hT⟩
    ·refine ⟨_,rfl,rfl,?_⟩
     go_simp
     have kss:=Bx.new z14 51 #[.slice PA pl pc,.slice RA rn rc,.slice OA rn oc,.slice PA pl pc,.slice RA rn rc]
     have hT3:=hS.alloc (.cells #[.slice PA pl pc,.slice RA rn rc,.slice OA rn oc,.slice PA pl pc,.slice RA rn rc] 51)
     have hb113:=hS.size
     replace kps:=kps.alloc (.cells #[.slice PA pl pc,.slice RA rn rc,.slice OA rn oc,.slice PA pl pc,.slice RA rn rc] 51)
     obtain ⟨z20,hy⟩ : ∃ x,z14.alloc (.cells #[.slice PA pl pc,.slice RA rn rc,.slice OA rn oc,.slice PA pl pc,.slice RA rn rc] 51) = x:=⟨_,rfl⟩
     rw [hy] at kps kss hT3 ⊢
     obtain ⟨b113,hbq⟩ : ∃ p,z14.heap.size = p:=⟨_,rfl⟩
     rw [hbq] at kss hb113 ⊢
     clear hy hbq
     have hSn:=hT3
     clear hS
     refine Onward.on hSn (fun hS => ?_)
     try dsimp only at hS
     clear hSn
     try simp only [Act.put,Sp1,Sp2,Sp3,Sp4,Sp5,Sp6]
     refine AnyG.one (i:=5) (by as_aux_lemma => kernel_rfl) rfl rfl ?_
     go_simp
     have kos:=Bx.new z20 27 #[.slice LA ln lc,.int .i64 o.le,.int .i64 o.mo,.slice BA bn bc,.slice MA ml mc,.int .i64 om.le,.int .i64 om.mo,.slice NA mn nc,.slice MA ml mc,.int .i64 om.le,.int .i64 om.mo,.slice NA mn nc,.slice MA ml mc,.int .i64 om.le,.int .i64 om.mo,.slice NA mn nc,.slice MA ml mc,.int .i64 om.le,.int .i64 om.mo,.slice NA mn nc]
     have hT3:=hS.alloc (.cells #[.slice LA ln lc,.int .i64 o.le,.int .i64 o.mo,.slice BA bn bc,.slice MA ml mc,.int .i64 om.le,.int .i64 om.mo,.slice NA mn nc,.slice MA ml mc,.int .i64 om.le,.int .i64 om.mo,.slice NA mn nc,.slice MA ml mc,.int .i64 om.le,.int .i64 om.mo,.slice NA mn nc,.slice MA ml mc,.int .i64 om.le,.int .i64 om.mo,.slice NA mn nc] 27)
     have hb98:=hS.size
     replace kps:=kps.alloc (.cells #[.slice LA ln lc,.int .i64 o.le,.int .i64 o.mo,.slice BA bn bc,.slice MA ml mc,.int .i64 om.le,.int .i64 om.mo,.slice NA mn nc,.slice MA ml mc,.int .i64 om.le,.int .i64 om.mo,.slice NA mn nc,.slice MA ml mc,.int .i64 om.le,.int .i64 om.mo,.slice NA mn nc,.slice MA ml mc,.int .i64 om.le,.int .i64 om.mo,.slice NA mn nc] 27)
     replace kss:=kss.alloc (.cells #[.slice LA ln lc,.int .i64 o.le,.int .i64 o.mo,.slice BA bn bc,.slice MA ml mc,.int .i64 om.le,.int .i64 om.mo,.slice NA mn nc,.slice MA ml mc,.int .i64 om.le,.int .i64 om.mo,.slice NA mn nc,.slice MA ml mc,.int .i64 om.le,.int .i64 om.mo,.slice NA mn nc,.slice MA ml mc,.int .i64 om.le,.int .i64 om.mo,.slice NA mn nc] 27)
     obtain ⟨z5,hy⟩ : ∃ x,z20.alloc (.cells #[.slice LA ln lc,.int .i64 o.le,.int .i64 o.mo,.slice BA bn bc,.slice MA ml mc,.int .i64 om.le,.int .i64 om.mo,.slice NA mn nc,.slice MA ml mc,.int .i64 om.le,.int .i64 om.mo,.slice NA mn nc,.slice MA ml mc,.int .i64 om.le,.int .i64 om.mo,.slice NA mn nc,.slice MA ml mc,.int .i64 om.le,.int .i64 om.mo,.slice NA mn nc] 27) = x:=⟨_,rfl⟩
     rw [hy] at kps kss kos hT3 ⊢
     obtain ⟨b98,hbq⟩ : ∃ p,z20.heap.size = p:=⟨_,rfl⟩
     rw [hbq] at kos hb98 ⊢
     clear hy hbq
     have hSn:=hT3
     clear hS
     refine Onward.on hSn (fun hS => ?_)
     try dsimp only at hS
     clear hSn
     try simp only [Act.put,Sp1,Sp2,Sp3,Sp4,Sp5,Sp6]
     refine AnyG.castL (L':=#[true,true,true,true,true,true,true,true,true,true,true,true,true,true,true,true,true,true,true,true,true,false,false,false]) (by as_aux_lemma => kernel_rfl) ?_
     exact tail z5 b98 b107 b113 rb ⟨hS,kos,kps,kss⟩
   ·refine ⟨_,rfl,rfl,?_⟩
    go_simp
    have kss:=Bx.new z12 51 #[.slice PA pl pc,.slice RA rn rc,.slice OA rn oc,.slice PA pl pc,.slice RA rn rc]
    have hT3:=hS.alloc (.cells #[.slice PA pl pc,.slice RA rn rc,.slice OA rn oc,.slice PA pl pc,.slice RA rn rc] 51)
    have hb113:=hS.size
    obtain ⟨z20,hy⟩ : ∃ x,z12.alloc (.cells #[.slice PA pl pc,.slice RA rn rc,.slice OA rn oc,.slice PA pl pc,.slice RA rn rc] 51) = x:=⟨_,rfl⟩
    rw [hy] at kss hT3 ⊢
    obtain ⟨b113,hbq⟩ : ∃ p,z12.heap.size = p:=⟨_,rfl⟩
    rw [hbq] at kss hb113 ⊢
    clear hy hbq
    have hSn:=hT3
    clear hS
    refine Onward.on hSn (fun hS => ?_)
    try dsimp only at hS
    clear hSn
    try simp only [Act.put,Sp1,Sp2,Sp3,Sp4,Sp5,Sp6]
    refine AnyG.all (rs:=[5,14]) (by as_aux_lemma => kernel_rfl) (by simp) ?_
    intro ii hii
    simp only [List.mem_cons,List.not_mem_nil,or_false] at hii
    rcases hii with rfl | rfl
    ·refine ⟨_,rfl,rfl,?_⟩
     go_simp
     have kos:=Bx.new z20 27 #[.slice LA ln lc,.int .i64 o.le,.int .i64 o.mo,.slice BA bn bc,.slice MA ml mc,.int .i64 om.le,.int .i64 om.mo,.slice NA mn nc,.slice MA ml mc,.int .i64 om.le,.int .i64 om.mo,.slice NA mn nc,.slice MA ml mc,.int .i64 om.le,.int .i64 om.mo,.slice NA mn nc,.slice MA ml mc,.int .i64 om.le,.int .i64 om.mo,.slice NA mn nc]
     have hT3:=hS.alloc (.cells #[.slice LA ln lc,.int .i64 o.le,.int .i64 o.mo,.slice BA bn bc,.slice MA ml mc,.int .i64 om.le,.int .i64 om.mo,.slice NA mn nc,.slice MA ml mc,.int .i64 om.le,.int .i64 om.mo,.slice NA mn nc,.slice MA ml mc,.int .i64 om.le,.int .i64 om.mo,.slice NA mn nc,.slice MA ml mc,.int .i64 om.le,.int .i64 om.mo,.slice NA mn nc] 27)
     have hb98:=hS.size
     replace kss:=kss.alloc (.cells #[.slice LA ln lc,.int .i64 o.le,.int .i64 o.mo,.slice BA bn bc,.slice MA ml mc,.int .i64 om.le,.int .i64 om.mo,.slice NA mn nc,.slice MA ml mc,.int .i64 om.le,.int .i64 om.mo,.slice NA mn nc,.slice MA ml mc,.int .i64 om.le,.int .i64 om.mo,.slice NA mn nc,.slice MA ml mc,.int .i64 om.le,.int .i64 om.mo,.slice NA mn nc] 27)
     obtain ⟨z5,hy⟩ : ∃ x,z20.alloc (.cells #[.slice LA ln lc,.int .i64 o.le,.int .i64 o.mo,.slice BA bn bc,.slice MA ml mc,.int .i64 om.le,.int .i64 om.mo,.slice NA mn nc,.slice MA ml mc,.int .i64 om.le,.int .i64 om.mo,.slice NA mn nc,.slice MA ml mc,.int .i64 om.le,.int .i64 om.mo,.slice NA mn nc,.slice MA ml mc,.int .i64 om.le,.int .i64 om.mo,.slice NA mn nc] 27) = x:=⟨_,rfl⟩
     rw [hy] at kss kos hT3 ⊢
     obtain ⟨b98,hbq⟩ : ∃ p,z20.heap.size = p:=⟨_,rfl⟩
     rw [hbq] at kos hb98 ⊢
     clear hy hbq
     have hSn:=hT3
     clear hS
     refine Onward.on hSn (fun hS => ?_)
     try dsimp only at hS
     clear hSn
     try simp only [Act.put,Sp1,Sp2,Sp3,Sp4,Sp5,Sp6]
     refine AnyG.all (rs:=[14,21]) (by as_aux_lemma => kernel_rfl) (by simp) ?_
     intro ii hii
     simp only [List.mem_cons,List.not_mem_nil,or_false] at hii
     rcases hii with rfl | rfl
     ·refine ⟨_,rfl,rfl,?_⟩
      go_simp
      have kps:=Bx.new z5 3 #[.int .i64 price,.int .i64 q,.int .i64 q,.int .i64 price,.int .i64 (q + rb)]
      have hT3:=hS.alloc (.cells #[.int .i64 price,.int .i64 q,.int .i64 q,.int .i64 price,.int .i64 (q + rb)] 3)
      have hb107:=hS.size
      replace kos:=kos.alloc (.cells #[.int .i64 price,.int .i64 q,.int .i64 q,.int .i64 price,.int .i64 (q + rb)] 3)
      replace kss:=kss.alloc (.cells #[.int .i64 price,.int .i64 q,.int .i64 q,.int .i64 price,.int .i64 (q + rb)] 3)
      obtain ⟨z14,hy⟩ : ∃ x,z5.alloc (.cells #[.int .i64 price,.int .i64 q,.int .i64 q,.int .i64 price,.int .i64 (q + rb)] 3) = x:=⟨_,rfl⟩
      rw [hy] at kos kss kps hT3 ⊢
      obtain ⟨b107,hbq⟩ : ∃ p,z5.heap.size = p:=⟨_,rfl⟩
      rw [hbq] at kps hb107 ⊢
      clear hy hbq
      have hSn:=hT3
      clear hS
      refine Onward.on hSn (fun hS => ?_)
      try dsimp only at hS
      clear hSn
      try simp only [Act.put,Sp1,Sp2,Sp3,Sp4,Sp5,Sp6]
      refine AnyG.castL (L':=#[true,true,true,true,true,true,true,true,true,true,true,true,true,true,true,true,true,true,true,true,true,false,false,false]) (by as_aux_lemma => kernel_rfl) ?_
      exact tail z14 b98 b107 b113 rb ⟨hS,kos,kps,kss⟩
     ·refine ⟨_,rfl,rfl,?_⟩
      go_simp
      refine Onward.on hS (fun hS2 => ?_)
      clear hS2
      try simp only [Act.put,Sp1,Sp2,Sp3,Sp4,Sp5,Sp6]
      refine AnyG.one (i:=14) (by as_aux_lemma => kernel_rfl) rfl rfl ?_
      go_simp
      have kps:=Bx.new z5 3 #[.int .i64 price,.int .i64 q,.int .i64 q,.int .i64 price,.int .i64 (q + rb)]
      have hT3:=hS.alloc (.cells #[.int .i64 price,.int .i64 q,.int .i64 q,.int .i64 price,.int .i64 (q + rb)] 3)
      have hb107:=hS.size
      replace kos:=kos.alloc (.cells #[.int .i64 price,.int .i64 q,.int .i64 q,.int .i64 price,.int .i64 (q + rb)] 3)
      replace kss:=kss.alloc (.cells #[.int .i64 price,.int .i64 q,.int .i64 q,.int .i64 price,.int .i64 (q + rb)] 3)
      obtain ⟨z14,hy⟩ : ∃ x,z5.alloc (.cells #[.int .i64 price,.int .i64 q,.int .i64 q,.int .i64 price,.int .i64 (q + rb)] 3) = x:=⟨_,rfl⟩
      rw [hy] at kos kss kps hT3 ⊢
      obtain ⟨b107,hbq⟩ : ∃ p,z5.heap.size = p:=⟨_,rfl⟩
      rw [hbq] at kps hb107 ⊢
      clear hy hbq
      have hSn:=hT3
      clear hS
      refine Onward.on hSn (fun hS => ?_)
      try dsimp only at hS
      clear hSn
      try simp only [Act.put,Sp1,Sp2,Sp3,Sp4,Sp5,Sp6]
      refine AnyG.one (i:=22) (by as_aux_lemma => kernel_rfl) rfl rfl ?_
      go_simp
      refine Onward.on hS (fun hS2 => ?_)
      clear hS2
      try simp only [Act.put,Sp1,Sp2,Sp3,Sp4,Sp5,Sp6]
      refine AnyG.one (i:=23) (by as_aux_lemma => kernel_rfl) rfl rfl ?_
      go_simp
      refine Onward.on hS (fun hS2 => ?_)
      clear hS2
      try simp only [Act.put,Sp1,Sp2,Sp3,Sp4,Sp5,Sp6]
      refine AnyG.done (by as_aux_lemma => kernel_rfl) ?_ _
      have hT:=hS
      clear hS
      go_simp
      go_wp2_with fail
      go_meet
      exact ⟨b98,b107,b113,rb,rfl,rfl,rfl,kos,kps,kss,hT⟩
    ·refine ⟨_,rfl,rfl,?_⟩
     go_simp
     have kps:=Bx.new z20 3 #[.int .i64 price,.int .i64 q,.int .i64 q,.int .i64 price,.int .i64 (q + rb)]
     have hT3:=hS.alloc (.cells #[.int .i64 price,.int .i64 q,.int .i64 q,.int .i64 price,.int .i64 (q + rb)] 3)
     have hb107:=hS.size
     replace kss:=kss.alloc (.cells #[.int .i64 price,.int .i64 q,.int .i64 q,.int .i64 price,.int .i64 (q + rb)] 3)
     obtain ⟨z14,hy⟩ : ∃ x,z20.alloc (.cells #[.int .i64 price,.int .i64 q,.int .i64 q,.int .i64 price,.int .i64 (q + rb)] 3) = x:=⟨_,rfl⟩
     rw [hy] at kss kps hT3 ⊢
     obtain ⟨b107,hbq⟩ : ∃ p,z20.heap.size = p:=⟨_,rfl⟩
     rw [hbq] at kps hb107 ⊢
     clear hy hbq
     have hSn:=hT3
     clear hS
     refine Onward.on hSn (fun hS => ?_)
     try dsimp only at hS
     clear hSn
     try simp only [Act.put,Sp1,Sp2,Sp3,Sp4,Sp5,Sp6]
     refine AnyG.one (i:=5) (by as_aux_lemma => kernel_rfl) rfl rfl ?_
     go_simp
     have kos:=Bx.new z14 27 #[.slice LA ln lc,.int .i64 o.le,.int .i64 o.mo,.slice BA bn bc,.slice MA ml mc,.int .i64 om.le,.int .i64 om.mo,.slice NA mn nc,.slice MA ml mc,.int .i64 om.le,.int .i64 om.mo,.slice NA mn nc,.slice MA ml mc,.int .i64 om.le,.int .i64 om.mo,.slice NA mn nc,.slice MA ml mc,.int .i64 om.le,.int .i64 om.mo,.slice NA mn nc]
     have hT3:=hS.alloc (.cells #[.slice LA ln lc,.int .i64 o.le,.int .i64 o.mo,.slice BA bn bc,.slice MA ml mc,.int .i64 om.le,.int .i64 om.mo,.slice NA mn nc,.slice MA ml mc,.int .i64 om.le,.int .i64 om.mo,.slice NA mn nc,.slice MA ml mc,.int .i64 om.le,.int .i64 om.mo,.slice NA mn nc,.slice MA ml mc,.int .i64 om.le,.int .i64 om.mo,.slice NA mn nc] 27)
     have hb98:=hS.size
     replace kps:=kps.alloc (.cells #[.slice LA ln lc,.int .i64 o.le,.int .i64 o.mo,.slice BA bn bc,.slice MA ml mc,.int .i64 om.le,.int .i64 om.mo,.slice NA mn nc,.slice MA ml mc,.int .i64 om.le,.int .i64 om.mo,.slice NA mn nc,.slice MA ml mc,.int .i64 om.le,.int .i64 om.mo,.slice NA mn nc,.slice MA ml mc,.int .i64 om.le,.int .i64 om.mo,.slice NA mn nc] 27)
     replace kss:=kss.alloc (.cells #[.slice LA ln lc,.int .i64 o.le,.int .i64 o.mo,.slice BA bn bc,.slice MA ml mc,.int .i64 om.le,.int .i64 om.mo,.slice NA mn nc,.slice MA ml mc,.int .i64 om.le,.int .i64 om.mo,.slice NA mn nc,.slice MA ml mc,.int .i64 om.le,.int .i64 om.mo,.slice NA mn nc,.slice MA ml mc,.int .i64 om.le,.int .i64 om.mo,.slice NA mn nc] 27)
     obtain ⟨z5,hy⟩ : ∃ x,z14.alloc (.cells #[.slice LA ln lc,.int .i64 o.le,.int .i64 o.mo,.slice BA bn bc,.slice MA ml mc,.int .i64 om.le,.int .i64 om.mo,.slice NA mn nc,.slice MA ml mc,.int .i64 om.le,.int .i64 om.mo,.slice NA mn nc,.slice MA ml mc,.int .i64 om.le,.int .i64 om.mo,.slice NA mn nc,.slice MA ml mc,.int .i64 om.le,.int .i64 om.mo,.slice NA mn nc] 27) = x:=⟨_,rfl⟩
     rw [hy] at kps kss kos hT3 ⊢
     obtain ⟨b98,hbq⟩ : ∃ p,z14.heap.size = p:=⟨_,rfl⟩
     rw [hbq] at kos hb98 ⊢
     clear hy hbq
     have hSn:=hT3
     clear hS
     refine Onward.on hSn (fun hS => ?_)
     try dsimp only at hS
     clear hSn
     try simp only [Act.put,Sp1,Sp2,Sp3,Sp4,Sp5,Sp6]
     refine AnyG.castL (L':=#[true,true,true,true,true,true,true,true,true,true,true,true,true,true,true,true,true,true,true,true,true,false,false,false]) (by as_aux_lemma => kernel_rfl) ?_
     exact tail z5 b98 b107 b113 rb ⟨hS,kos,kps,kss⟩
  ·refine ⟨_,rfl,rfl,?_⟩
   go_simp
   have kss:=Bx.new y0 51 #[.slice PA pl pc,.slice RA rn rc,.slice OA rn oc,.slice PA pl pc,.slice RA rn rc]
   have hT3:=hS.alloc (.cells #[.slice PA pl pc,.slice RA rn rc,.slice OA rn oc,.slice PA pl pc,.slice RA rn rc] 51)
   have hb113:=hS.size
   obtain ⟨z20,hy⟩ : ∃ x,y0.alloc (.cells #[.slice PA pl pc,.slice RA rn rc,.slice OA rn oc,.slice PA pl pc,.slice RA rn rc] 51) = x:=⟨_,rfl⟩
   rw [hy] at kss hT3 ⊢
   obtain ⟨b113,hbq⟩ : ∃ p,y0.heap.size = p:=⟨_,rfl⟩
   rw [hbq] at kss hb113 ⊢
   clear hy hbq
   have hSn:=hT3
   clear hS
   refine Onward.on hSn (fun hS => ?_)
   try dsimp only at hS
   clear hSn
   try simp only [Act.put,Sp1,Sp2,Sp3,Sp4,Sp5,Sp6]
   refine AnyG.all (rs:=[5,12]) (by as_aux_lemma => kernel_rfl) (by simp) ?_
   intro ii hii
   simp only [List.mem_cons,List.not_mem_nil,or_false] at hii
   rcases hii with rfl | rfl
   ·refine ⟨_,rfl,rfl,?_⟩
    go_simp
    have kos:=Bx.new z20 27 #[.slice LA ln lc,.int .i64 o.le,.int .i64 o.mo,.slice BA bn bc,.slice MA ml mc,.int .i64 om.le,.int .i64 om.mo,.slice NA mn nc,.slice MA ml mc,.int .i64 om.le,.int .i64 om.mo,.slice NA mn nc,.slice MA ml mc,.int .i64 om.le,.int .i64 om.mo,.slice NA mn nc,.slice MA ml mc,.int .i64 om.le,.int .i64 om.mo,.slice NA mn nc]
    have hT3:=hS.alloc (.cells #[.slice LA ln lc,.int .i64 o.le,.int .i64 o.mo,.slice BA bn bc,.slice MA ml mc,.int .i64 om.le,.int .i64 om.mo,.slice NA mn nc,.slice MA ml mc,.int .i64 om.le,.int .i64 om.mo,.slice NA mn nc,.slice MA ml mc,.int .i64 om.le,.int .i64 om.mo,.slice NA mn nc,.slice MA ml mc,.int .i64 om.le,.int .i64 om.mo,.slice NA mn nc] 27)
    have hb98:=hS.size
    replace kss:=kss.alloc (.cells #[.slice LA ln lc,.int .i64 o.le,.int .i64 o.mo,.slice BA bn bc,.slice MA ml mc,.int .i64 om.le,.int .i64 om.mo,.slice NA mn nc,.slice MA ml mc,.int .i64 om.le,.int .i64 om.mo,.slice NA mn nc,.slice MA ml mc,.int .i64 om.le,.int .i64 om.mo,.slice NA mn nc,.slice MA ml mc,.int .i64 om.le,.int .i64 om.mo,.slice NA mn nc] 27)
    obtain ⟨z5,hy⟩ : ∃ x,z20.alloc (.cells #[.slice LA ln lc,.int .i64 o.le,.int .i64 o.mo,.slice BA bn bc,.slice MA ml mc,.int .i64 om.le,.int .i64 om.mo,.slice NA mn nc,.slice MA ml mc,.int .i64 om.le,.int .i64 om.mo,.slice NA mn nc,.slice MA ml mc,.int .i64 om.le,.int .i64 om.mo,.slice NA mn nc,.slice MA ml mc,.int .i64 om.le,.int .i64 om.mo,.slice NA mn nc] 27) = x:=⟨_,rfl⟩
    rw [hy] at kss kos hT3 ⊢
    obtain ⟨b98,hbq⟩ : ∃ p,z20.heap.size = p:=⟨_,rfl⟩
    rw [hbq] at kos hb98 ⊢
    clear hy hbq
    have hSn:=hT3
    clear hS
    refine Onward.on hSn (fun hS => ?_)
    try dsimp only at hS
    clear hSn
    try simp only [Act.put,Sp1,Sp2,Sp3,Sp4,Sp5,Sp6]
    refine AnyG.one (i:=12) (by as_aux_lemma => kernel_rfl) rfl rfl ?_
    go_simp
    refine (below_any g 9 _ hS.2 (by omega) (by omega)).mono ?_
    rintro e12 z12 ⟨⟨rb,rfl,rb1,rb2⟩,hF12,hg12⟩
    have hbw : IntKind.i64.wrap (q + rb) = q + rb:=IntWalk.i64_in _ (by omega)
    replace kos:=kos.grown hg12 (by have:=hF10.lt; simp; omega)
    replace kss:=kss.grown hg12 (by have:=hF10.lt; simp; omega)
    have hSn:=(hS.call hg12 hF12)
    clear hS
    refine Onward.on hSn (fun hS => ?_)
    try dsimp only at hS
    clear hSn
    try simp only [Act.put,Sp1,Sp2,Sp3,Sp4,Sp5,Sp6]
    refine AnyG.takeC (i:=13) (v:=?_) rfl (by as_aux_lemma => kernel_rfl) (fun _ _ _ h => h) rfl ?_ hS ?_
    rotate_left
    ·(intro w' hSw; (try dsimp only at hSw); go_simp; try with_reducible rfl)
    try simp only [Act.put,Sp1,Sp2,Sp3,Sp4,Sp5,Sp6]
    refine AnyG.all (rs:=[14,21]) (by as_aux_lemma => kernel_rfl) (by simp) ?_
    intro ii hii
    simp only [List.mem_cons,List.not_mem_nil,or_false] at hii
    rcases hii with rfl | rfl
    ·refine ⟨_,rfl,rfl,?_⟩
     go_simp
     have kps:=Bx.new z12 3 #[.int .i64 price,.int .i64 q,.int .i64 q,.int .i64 price,.int .i64 (q + rb)]
     have hT3:=hS.alloc (.cells #[.int .i64 price,.int .i64 q,.int .i64 q,.int .i64 price,.int .i64 (q + rb)] 3)
     have hb107:=hS.size
     replace kos:=kos.alloc (.cells #[.int .i64 price,.int .i64 q,.int .i64 q,.int .i64 price,.int .i64 (q + rb)] 3)
     replace kss:=kss.alloc (.cells #[.int .i64 price,.int .i64 q,.int .i64 q,.int .i64 price,.int .i64 (q + rb)] 3)
     obtain ⟨z14,hy⟩ : ∃ x,z12.alloc (.cells #[.int .i64 price,.int .i64 q,.int .i64 q,.int .i64 price,.int .i64 (q + rb)] 3) = x:=⟨_,rfl⟩
     rw [hy] at kos kss kps hT3 ⊢
     obtain ⟨b107,hbq⟩ : ∃ p,z12.heap.size = p:=⟨_,rfl⟩
     rw [hbq] at kps hb107 ⊢
     clear hy hbq
     have hSn:=hT3
     clear hS
     refine Onward.on hSn (fun hS => ?_)
     try dsimp only at hS
     clear hSn
     try simp only [Act.put,Sp1,Sp2,Sp3,Sp4,Sp5,Sp6]
     refine AnyG.castL (L':=#[true,true,true,true,true,true,true,true,true,true,true,true,true,true,true,true,true,true,true,true,true,false,false,false]) (by as_aux_lemma => kernel_rfl) ?_
     exact tail z14 b98 b107 b113 rb ⟨hS,kos,kps,kss⟩
    ·refine ⟨_,rfl,rfl,?_⟩
     go_simp
     refine Onward.on hS (fun hS2 => ?_)
     clear hS2
     try simp only [Act.put,Sp1,Sp2,Sp3,Sp4,Sp5,Sp6]
     refine AnyG.one (i:=14) (by as_aux_lemma => kernel_rfl) rfl rfl ?_
     go_simp
     have kps:=Bx.new z12 3 #[.int .i64 price,.int .i64 q,.int .i64 q,.int .i64 price,.int .i64 (q + rb)]
     have hT3:=hS.alloc (.cells #[.int .i64 price,.int .i64 q,.int .i64 q,.int .i64 price,.int .i64 (q + rb)] 3)
     have hb107:=hS.size
     replace kos:=kos.alloc (.cells #[.int .i64 price,.int .i64 q,.int .i64 q,.int .i64 price,.int .i64 (q + rb)] 3)
     replace kss:=kss.alloc (.cells #[.int .i64 price,.int .i64 q,.int .i64 q,.int .i64 price,.int .i64 (q + rb)] 3)
     obtain ⟨z14,hy⟩ : ∃ x,z12.alloc (.cells #[.int .i64 price,.int .i64 q,.int .i64 q,.int .i64 price,.int .i64 (q + rb)] 3) = x:=⟨_,rfl⟩
     rw [hy] at kos kss kps hT3 ⊢
     obtain ⟨b107,hbq⟩ : ∃ p,z12.heap.size = p:=⟨_,rfl⟩
     rw [hbq] at kps hb107 ⊢
     clear hy hbq
     have hSn:=hT3
     clear hS
     refine Onward.on hSn (fun hS => ?_)
     try dsimp only at hS
     clear hSn
     try simp only [Act.put,Sp1,Sp2,Sp3,Sp4,Sp5,Sp6]
     refine AnyG.one (i:=22) (by as_aux_lemma => kernel_rfl) rfl rfl ?_
     go_simp
     refine Onward.on hS (fun hS2 => ?_)
     clear hS2
     try simp only [Act.put,Sp1,Sp2,Sp3,Sp4,Sp5,Sp6]
     refine AnyG.one (i:=23) (by as_aux_lemma => kernel_rfl) rfl rfl ?_
     go_simp
     refine Onward.on hS (fun hS2 => ?_)
     clear hS2
     try simp only [Act.put,Sp1,Sp2,Sp3,Sp4,Sp5,Sp6]
     refine AnyG.done (by as_aux_lemma => kernel_rfl) ?_ _
     have hT:=hS
     clear hS
     go_simp
     go_wp2_with fail
     go_meet
     exact ⟨b98,b107,b113,rb,rfl,rfl,rfl,kos,kps,kss,hT⟩
   ·refine ⟨_,rfl,rfl,?_⟩
    go_simp
    refine (below_any g 9 _ hS.2 (by omega) (by omega)).mono ?_
    rintro e12 z12 ⟨⟨rb,rfl,rb1,rb2⟩,hF12,hg12⟩
    have hbw : IntKind.i64.wrap (q + rb) = q + rb:=IntWalk.i64_in _ (by omega)
    replace kss:=kss.grown hg12 (by have:=hF10.lt; simp; omega)
    have hSn:=(hS.call hg12 hF12)
    clear hS
    refine Onward.on hSn (fun hS => ?_)
    try dsimp only at hS
    clear hSn
    try simp only [Act.put,Sp1,Sp2,Sp3,Sp4,Sp5,Sp6]
    refine AnyG.takeC (i:=13) (v:=?_) rfl (by as_aux_lemma => kernel_rfl) (fun _ _ _ h => h) rfl ?_ hS ?_
    rotate_left
    ·(intro w' hSw; (try dsimp only at hSw); go_simp; try with_reducible rfl)
    try simp only [Act.put,Sp1,Sp2,Sp3,Sp4,Sp5,Sp6]
    refine AnyG.all (rs:=[5,14]) (by as_aux_lemma => kernel_rfl) (by simp) ?_
    intro ii hii
    simp only [List.mem_cons,List.not_mem_nil,or_false] at hii
    rcases hii with rfl | rfl
    ·refine ⟨_,rfl,rfl,?_⟩
     go_simp
     have kos:=Bx.new z12 27 #[.slice LA ln lc,.int .i64 o.le,.int .i64 o.mo,.slice BA bn bc,.slice MA ml mc,.int .i64 om.le,.int .i64 om.mo,.slice NA mn nc,.slice MA ml mc,.int .i64 om.le,.int .i64 om.mo,.slice NA mn nc,.slice MA ml mc,.int .i64 om.le,.int .i64 om.mo,.slice NA mn nc,.slice MA ml mc,.int .i64 om.le,.int .i64 om.mo,.slice NA mn nc]
     have hT3:=hS.alloc (.cells #[.slice LA ln lc,.int .i64 o.le,.int .i64 o.mo,.slice BA bn bc,.slice MA ml mc,.int .i64 om.le,.int .i64 om.mo,.slice NA mn nc,.slice MA ml mc,.int .i64 om.le,.int .i64 om.mo,.slice NA mn nc,.slice MA ml mc,.int .i64 om.le,.int .i64 om.mo,.slice NA mn nc,.slice MA ml mc,.int .i64 om.le,.int .i64 om.mo,.slice NA mn nc] 27)
     have hb98:=hS.size
     replace kss:=kss.alloc (.cells #[.slice LA ln lc,.int .i64 o.le,.int .i64 o.mo,.slice BA bn bc,.slice MA ml mc,.int .i64 om.le,.int .i64 om.mo,.slice NA mn nc,.slice MA ml mc,.int .i64 om.le,.int .i64 om.mo,.slice NA mn nc,.slice MA ml mc,.int .i64 om.le,.int .i64 om.mo,.slice NA mn nc,.slice MA ml mc,.int .i64 om.le,.int .i64 om.mo,.slice NA mn nc] 27)
     obtain ⟨z5,hy⟩ : ∃ x,z12.alloc (.cells #[.slice LA ln lc,.int .i64 o.le,.int .i64 o.mo,.slice BA bn bc,.slice MA ml mc,.int .i64 om.le,.int .i64 om.mo,.slice NA mn nc,.slice MA ml mc,.int .i64 om.le,.int .i64 om.mo,.slice NA mn nc,.slice MA ml mc,.int .i64 om.le,.int .i64 om.mo,.slice NA mn nc,.slice MA ml mc,.int .i64 om.le,.int .i64 om.mo,.slice NA mn nc] 27) = x:=⟨_,rfl⟩
     rw [hy] at kss kos hT3 ⊢
     obtain ⟨b98,hbq⟩ : ∃ p,z12.heap.size = p:=⟨_,rfl⟩
     rw [hbq] at kos hb98 ⊢
     clear hy hbq
     have hSn:=hT3
     clear hS
     refine Onward.on hSn (fun hS => ?_)
     try dsimp only at hS
     clear hSn
     try simp only [Act.put,Sp1,Sp2,Sp3,Sp4,Sp5,Sp6]
     refine AnyG.all (rs:=[14,21]) (by as_aux_lemma => kernel_rfl) (by simp) ?_
     intro ii hii
     simp only [List.mem_cons,List.not_mem_nil,or_false] at hii
     rcases hii with rfl | rfl
     ·refine ⟨_,rfl,rfl,?_⟩
      go_simp
      have kps:=Bx.new z5 3 #[.int .i64 price,.int .i64 q,.int .i64 q,.int .i64 price,.int .i64 (q + rb)]
      have hT3:=hS.alloc (.cells #[.int .i64 price,.int .i64 q,.int .i64 q,.int .i64 price,.int .i64 (q + rb)] 3)
      have hb107:=hS.size
      replace kos:=kos.alloc (.cells #[.int .i64 price,.int .i64 q,.int .i64 q,.int .i64 price,.int .i64 (q + rb)] 3)
      replace kss:=kss.alloc (.cells #[.int .i64 price,.int .i64 q,.int .i64 q,.int .i64 price,.int .i64 (q + rb)] 3)
      obtain ⟨z14,hy⟩ : ∃ x,z5.alloc (.cells #[.int .i64 price,.int .i64 q,.int .i64 q,.int .i64 price,.int .i64 (q + rb)] 3) = x:=⟨_,rfl⟩
      rw [hy] at kos kss kps hT3 ⊢
      obtain ⟨b107,hbq⟩ : ∃ p,z5.heap.size = p:=⟨_,rfl⟩
      rw [hbq] at kps hb107 ⊢
      clear hy hbq
      have hSn:=hT3
      clear hS
      refine Onward.on hSn (fun hS => ?_)
      try dsimp only at hS
      clear hSn
      try simp only [Act.put,Sp1,Sp2,Sp3,Sp4,Sp5,Sp6]
      refine AnyG.castL (L':=#[true,true,true,true,true,true,true,true,true,true,true,true,true,true,true,true,true,true,true,true,true,false,false,false]) (by as_aux_lemma => kernel_rfl) ?_
      exact tail z14 b98 b107 b113 rb ⟨hS,kos,kps,kss⟩
     ·refine ⟨_,rfl,rfl,?_⟩
      go_simp
      refine Onward.on hS (fun hS2 => ?_)
      clear hS2
      try simp only [Act.put,Sp1,Sp2,Sp3,Sp4,Sp5,Sp6]
      refine AnyG.one (i:=14) (by as_aux_lemma => kernel_rfl) rfl rfl ?_
      go_simp
      have kps:=Bx.new z5 3 #[.int .i64 price,.int .i64 q,.int .i64 q,.int .i64 price,.int .i64 (q + rb)]
      have hT3:=hS.alloc (.cells #[.int .i64 price,.int .i64 q,.int .i64 q,.int .i64 price,.int .i64 (q + rb)] 3)
      have hb107:=hS.size
      replace kos:=kos.alloc (.cells #[.int .i64 price,.int .i64 q,.int .i64 q,.int .i64 price,.int .i64 (q + rb)] 3)
      replace kss:=kss.alloc (.cells #[.int .i64 price,.int .i64 q,.int .i64 q,.int .i64 price,.int .i64 (q + rb)] 3)
      obtain ⟨z14,hy⟩ : ∃ x,z5.alloc (.cells #[.int .i64 price,.int .i64 q,.int .i64 q,.int .i64 price,.int .i64 (q + rb)] 3) = x:=⟨_,rfl⟩
      rw [hy] at kos kss kps hT3 ⊢
      obtain ⟨b107,hbq⟩ : ∃ p,z5.heap.size = p:=⟨_,rfl⟩
      rw [hbq] at kps hb107 ⊢
      clear hy hbq
      have hSn:=hT3
      clear hS
      refine Onward.on hSn (fun hS => ?_)
      try dsimp only at hS
      clear hSn
      try simp only [Act.put,Sp1,Sp2,Sp3,Sp4,Sp5,Sp6]
      refine AnyG.one (i:=22) (by as_aux_lemma => kernel_rfl) rfl rfl ?_
      go_simp
      refine Onward.on hS (fun hS2 => ?_)
      clear hS2
      try simp only [Act.put,Sp1,Sp2,Sp3,Sp4,Sp5,Sp6]
      refine AnyG.one (i:=23) (by as_aux_lemma => kernel_rfl) rfl rfl ?_
      go_simp
      refine Onward.on hS (fun hS2 => ?_)
      clear hS2
      try simp only [Act.put,Sp1,Sp2,Sp3,Sp4,Sp5,Sp6]
      refine AnyG.done (by as_aux_lemma => kernel_rfl) ?_ _
      have hT:=hS
      clear hS
      go_simp
      go_wp2_with fail
      go_meet
      exact ⟨b98,b107,b113,rb,rfl,rfl,rfl,kos,kps,kss,hT⟩
    ·refine ⟨_,rfl,rfl,?_⟩
     go_simp
     have kps:=Bx.new z12 3 #[.int .i64 price,.int .i64 q,.int .i64 q,.int .i64 price,.int .i64 (q + rb)]
     have hT3:=hS.alloc (.cells #[.int .i64 price,.int .i64 q,.int .i64 q,.int .i64 price,.int .i64 (q + rb)] 3)
     have hb107:=hS.size
     replace kss:=kss.alloc (.cells #[.int .i64 price,.int .i64 q,.int .i64 q,.int .i64 price,.int .i64 (q + rb)] 3)
     obtain ⟨z14,hy⟩ : ∃ x,z12.alloc (.cells #[.int .i64 price,.int .i64 q,.int .i64 q,.int .i64 price,.int .i64 (q + rb)] 3) = x:=⟨_,rfl⟩
     rw [hy] at kss kps hT3 ⊢
     obtain ⟨b107,hbq⟩ : ∃ p,z12.heap.size = p:=⟨_,rfl⟩
     rw [hbq] at kps hb107 ⊢
     clear hy hbq
     have hSn:=hT3
     clear hS
     refine Onward.on hSn (fun hS => ?_)
     try dsimp only at hS
     clear hSn
     try simp only [Act.put,Sp1,Sp2,Sp3,Sp4,Sp5,Sp6]
     refine AnyG.one (i:=5) (by as_aux_lemma => kernel_rfl) rfl rfl ?_
     go_simp
     have kos:=Bx.new z14 27 #[.slice LA ln lc,.int .i64 o.le,.int .i64 o.mo,.slice BA bn bc,.slice MA ml mc,.int .i64 om.le,.int .i64 om.mo,.slice NA mn nc,.slice MA ml mc,.int .i64 om.le,.int .i64 om.mo,.slice NA mn nc,.slice MA ml mc,.int .i64 om.le,.int .i64 om.mo,.slice NA mn nc,.slice MA ml mc,.int .i64 om.le,.int .i64 om.mo,.slice NA mn nc]
     have hT3:=hS.alloc (.cells #[.slice LA ln lc,.int .i64 o.le,.int .i64 o.mo,.slice BA bn bc,.slice MA ml mc,.int .i64 om.le,.int .i64 om.mo,.slice NA mn nc,.slice MA ml mc,.int .i64 om.le,.int .i64 om.mo,.slice NA mn nc,.slice MA ml mc,.int .i64 om.le,.int .i64 om.mo,.slice NA mn nc,.slice MA ml mc,.int .i64 om.le,.int .i64 om.mo,.slice NA mn nc] 27)
     have hb98:=hS.size
     replace kps:=kps.alloc (.cells #[.slice LA ln lc,.int .i64 o.le,.int .i64 o.mo,.slice BA bn bc,.slice MA ml mc,.int .i64 om.le,.int .i64 om.mo,.slice NA mn nc,.slice MA ml mc,.int .i64 om.le,.int .i64 om.mo,.slice NA mn nc,.slice MA ml mc,.int .i64 om.le,.int .i64 om.mo,.slice NA mn nc,.slice MA ml mc,.int .i64 om.le,.int .i64 om.mo,.slice NA mn nc] 27)
     replace kss:=kss.alloc (.cells #[.slice LA ln lc,.int .i64 o.le,.int .i64 o.mo,.slice BA bn bc,.slice MA ml mc,.int .i64 om.le,.int .i64 om.mo,.slice NA mn nc,.slice MA ml mc,.int .i64 om.le,.int .i64 om.mo,.slice NA mn nc,.slice MA ml mc,.int .i64 om.le,.int .i64 om.mo,.slice NA mn nc,.slice MA ml mc,.int .i64 om.le,.int .i64 om.mo,.slice NA mn nc] 27)
     obtain ⟨z5,hy⟩ : ∃ x,z14.alloc (.cells #[.slice LA ln lc,.int .i64 o.le,.int .i64 o.mo,.slice BA bn bc,.slice MA ml mc,.int .i64 om.le,.int .i64 om.mo,.slice NA mn nc,.slice MA ml mc,.int .i64 om.le,.int .i64 om.mo,.slice NA mn nc,.slice MA ml mc,.int .i64 om.le,.int .i64 om.mo,.slice NA mn nc,.slice MA ml mc,.int .i64 om.le,.int .i64 om.mo,.slice NA mn nc] 27) = x:=⟨_,rfl⟩
     rw [hy] at kps kss kos hT3 ⊢
     obtain ⟨b98,hbq⟩ : ∃ p,z14.heap.size = p:=⟨_,rfl⟩
     rw [hbq] at kos hb98 ⊢
     clear hy hbq
     have hSn:=hT3
     clear hS
     refine Onward.on hSn (fun hS => ?_)
     try dsimp only at hS
     clear hSn
     try simp only [Act.put,Sp1,Sp2,Sp3,Sp4,Sp5,Sp6]
     refine AnyG.castL (L':=#[true,true,true,true,true,true,true,true,true,true,true,true,true,true,true,true,true,true,true,true,true,false,false,false]) (by as_aux_lemma => kernel_rfl) ?_
     exact tail z5 b98 b107 b113 rb ⟨hS,kos,kps,kss⟩
 case tail =>
  rintro y b98 b107 b113 rb ⟨hS,kos,kps,kss⟩
  refine AnyG.one (i:=21) (by as_aux_lemma => kernel_rfl) rfl rfl ?_
  go_simp
  refine Onward.on hS (fun hS2 => ?_)
  clear hS2
  try simp only [Act.put,Sp1,Sp2,Sp3,Sp4,Sp5,Sp6]
  refine AnyG.one (i:=22) (by as_aux_lemma => kernel_rfl) rfl rfl ?_
  go_simp
  refine Onward.on hS (fun hS2 => ?_)
  clear hS2
  try simp only [Act.put,Sp1,Sp2,Sp3,Sp4,Sp5,Sp6]
  refine AnyG.one (i:=23) (by as_aux_lemma => kernel_rfl) rfl rfl ?_
  go_simp
  refine Onward.on hS (fun hS2 => ?_)
  clear hS2
  try simp only [Act.put,Sp1,Sp2,Sp3,Sp4,Sp5,Sp6]
  refine AnyG.done (by as_aux_lemma => kernel_rfl) ?_ _
  have hT:=hS
  clear hS
  go_simp
  go_wp2_with fail
  go_meet
  exact ⟨b98,b107,b113,rb,rfl,rfl,rfl,kos,kps,kss,hT⟩
end Go.Proofs.Ytmemcopfeabcgaa
