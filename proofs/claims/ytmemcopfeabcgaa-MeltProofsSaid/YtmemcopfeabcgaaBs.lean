/- swarfref06.Blends: all blends of an order. -/
import Derived.Test.YtmemcopfeabcgaaMsM
set_option linter.unusedSimpArgs false
set_option linter.unusedVariables false
namespace Go.Proofs.Ytmemcopfeabcgaa
open Go Go.RowKit
section
variable {P : Program}
theorem app_none (w : World) (t ty e : TypeId) (i : TypeInfo) (ht : P.underlying t = some (.slice e)) (hi : P.info? e = some i) (a : Option Addr) (n cap c : Nat) (h : n ≤ cap) :
  (Builtin.append_ #[t,t] ty #[.slice a n cap,.slice none 0 c]).run P w = .ok (.slice a n cap) w:=by
 cases a with
 | none => simp [Builtin.append_,run_underlying ht,sizeOf,typeInfo,hi,Builtin.lenOf,run_firstCells_none,h]
 | some a => simp [Builtin.append_,run_underlying ht,sizeOf,typeInfo,hi,Builtin.lenOf,run_firstCells_none,h,storeCells]
theorem own_cap {w : World} {b : Nat} {e : TypeId} {s : Nat} {v : Value} {n : Nat} {xs : List Value} (h : w.ownsRow b e s v n xs) : ∃ A cap,v = .slice A n cap ∧ n ≤ cap:=by
 rcases h.2 with ⟨rfl,rfl⟩ | ⟨g,cap,cur,rfl,hb,hg,hc,hm,hs,ht⟩
 ·exact ⟨none,0,rfl,Nat.le_refl _⟩
 ·exact ⟨_,cap,rfl,hc⟩
/-- Append of a row that may be empty. -/
theorem wp_app3 {o : Oper} {a : Act} {w : World} {K : Act → World → Prop} {Q : Exit → Act → World → Prop} (s x : Operand) (t : TypeId)
  (ho : o.op = .call { callee:=.builtin .append,args:=#[s,x],argTypes:=#[t,t] })
  (base : Nat) (e : TypeId) (i : TypeInfo) (z : Value) (size bytes : Nat) (ht : P.underlying t = some (.slice e)) (hi : P.info? e = some i) (hz : i.zero = some z)
  (hsize : i.size = size) (hby : i.bytes = bytes) (hzs : z.cells.size = size) (hsz : 0 < size)
  (v : Value) (n : Nat) (xs : List Value) (hs : a.eval s = v) (hown : w.ownsRow base e size v n xs)
  (A : Option Addr) (m c : Nat) (news : List Value) (hx : a.eval x = .slice A m c) (hl : news.length = m * size) (hnews : ∀ j u,news[j]? = some u → ∃ ad,A = some ad ∧ w.cell? (ad.add j) = some u) (h1 : ∀ u ∈ news,u.oneCell' = true)
  (h63 : n + m ≤ maxLen) (hbytes : (n + m) * bytes ≤ 140737488355328) (hbase : base ≤ w.heap.size)
  (h : ∀ v' w',w'.ownsRow base e size v' (n + m) (xs ++ news) → w.grownBy w' v.ownBlock → w'.ownsRow base e size v n xs → (v'.ownBlock = v.ownBlock ∨ ∀ k,v'.ownBlock = some k → w.heap.size ≤ k) → K (a.put o.dst v') w') : o.wp P a w K Q:=by
 cases A with
 | some ad => exact wp_app2 s x t ho base e i z size bytes ht hi hz hsize hby hzs hsz v n xs hs hown ad m c news hx hl (fun j u hu => by obtain ⟨ad',e1,e2⟩:=hnews j u hu; cases e1; exact e2) h1 h63 hbytes hbase h
 | none =>
  have hn : news = []:=by
   cases news with
   | nil => rfl
   | cons u r => obtain ⟨ad,e1,_⟩:=hnews 0 u rfl; cases e1
  subst hn
  have hm : m = 0:=by
   rcases Nat.mul_eq_zero.1 hl.symm with h | h
   ·exact h
   ·omega
  subst hm
  obtain ⟨B,cap,e1,hc⟩:=own_cap hown
  have hr:=app_none (P:=P) w t o.type e i ht hi B n cap c hc
  rw [← e1] at hr
  unfold Oper.wp execOp
  simp only [ho,resolve,invoke,builtin,Sem.run_bind,Sem.run_pure,Result.andThen_ok,List.map_toArray,List.map_cons,List.map_nil,hs,hx,hr]
  exact h v w (by simpa using hown) (grown_refl _ _) hown (.inl rfl)
end
theorem own_cells {w : World} {b n c s : Nat} {e : TypeId} {A : Option Addr} {xs : List Value} (h : w.ownsRow b e s (.slice A n c) n xs) : ∀ j u,xs[j]? = some u → ∃ ad,A = some ad ∧ w.cell? (ad.add j) = some u:=fun j u hu => by
 rcases h.2 with ⟨h1,h2⟩ | ⟨g,cap,cur,h1,hb,hg,hc,hm,hs,ht⟩
 ·have:=h.1; subst h2; rw [Nat.zero_mul] at this; rw [List.eq_nil_of_length_eq_zero this] at hu; simp at hu
 ·simp only [Value.slice.injEq,true_and] at h1
  obtain ⟨rfl,rfl⟩:=h1
  exact ⟨_,rfl,h.cells (g:=g) rfl j u hu⟩
theorem LsOwn.append {w : World} {base : Nat} {vs vs' : List Value} {Ls Ls' : List (List Int)} (h : LsOwn w base vs Ls) (h' : LsOwn w base vs' Ls') : LsOwn w base (vs ++ vs') (Ls ++ Ls'):=by
 refine ⟨by simp [h.len,h'.len],fun k v l h1 h2 => ?_⟩
 by_cases hk : k < vs.length
 ·rw [List.getElem?_append_left hk] at h1
  rw [List.getElem?_append_left (by rw [← h.len]; exact hk)] at h2
  exact h.row k v l h1 h2
 ·rw [List.getElem?_append_right (by omega)] at h1
  rw [List.getElem?_append_right (by rw [← h.len]; omega),← h.len] at h2
  exact h'.row _ v l h1 h2
theorem LsOwn.up {w : World} {b b' : Nat} {vs : List Value} {Ls : List (List Int)} (h : LsOwn w b vs Ls) (hb : b' ≤ b) : LsOwn w b' vs Ls :=
 ⟨h.len,fun k v l h1 h2 => by obtain ⟨A,c,e,o⟩:=h.row k v l h1 h2; exact ⟨A,c,e,ownsRow_up o (fun q hq => Nat.le_trans hb (o.lt q hq).1)⟩⟩
theorem LsOwn.one {w : World} {b : Nat} {vs : List Value} {Ls : List (List Int)} (h : LsOwn w b vs Ls) : ∀ u ∈ vs,u.oneCell' = true:=fun u hu => by
 obtain ⟨k,hk,rfl⟩:=List.getElem_of_mem hu
 obtain ⟨A,c,e,_⟩:=h.row k _ _ (List.getElem?_eq_getElem hk) (List.getElem?_eq_getElem (by rw [← h.len]; exact hk))
 rw [e]; rfl
/-- The blends that begin with pre and have a number below k next. -/
def lsK (gs pre : List Int) (k : Nat) : List (List Int):=(List.range k).flatMap fun (n : Nat) => (allB gs).map fun l => pre ++ ((n : Int) :: l)
theorem lsK_succ (gs pre : List Int) (k : Nat) : lsK gs pre (k + 1) = lsK gs pre k ++ (allB gs).map fun l => pre ++ ((k : Int) :: l):=flatMap_snoc gs pre k
theorem lsK_len (gs pre : List Int) (k : Nat) : (lsK gs pre k).length = k * (allB gs).length:=by
 induction k with
 | zero => simp [lsK]
 | succ k ih => rw [lsK_succ,List.length_append,ih,List.length_map,Nat.succ_mul]
theorem lsK_all (g : Int) (gs pre : List Int) : lsK gs pre (g + 1).toNat = (allB (g :: gs)).map fun l => pre ++ l:=by
 simp only [lsK,allB,List.map_flatMap,List.map_map]
 rfl
theorem gs_drop {o : Od} {p : Nat} (hp : p < o.bs.length) : o.gs.drop p = (o.bn p).g :: o.gs.drop (p + 1):=by
 have h : p < o.gs.length:=by rw [gs_len]; exact hp
 rw [List.drop_eq_getElem_cons h]
 congr 1
 rw [← gs_at,List.getD_eq_getElem?_getD,List.getElem?_eq_getElem h]; rfl
theorem pre_snoc (gs pre : List Int) (k : Int) : ((allB gs).map fun l => (pre ++ [k]) ++ l) = (allB gs).map fun l => pre ++ (k :: l):=by
 refine List.map_congr_left fun l _ => by simp
/-- What Blends gives. -/
def BlP (w : World) (B : Nat) (Ls : List (List Int)) (e : Ending) (w' : World) : Prop :=
 ∃ (A : Option Addr) (c : Nat) (vs : List Value),e = .returned (.slice A Ls.length c) ∧ w'.ownsRow w.heap.size 22 1 (.slice A Ls.length c) Ls.length vs ∧ LsOwn w' B vs Ls ∧ Below w.heap.size w w'
set_option maxRecDepth 100000 in
set_option maxHeartbeats 8000000 in
theorem refBlends_any (LA : Option Addr) (ln lc : Nat) (BA : Option Addr) (bn bc : Nat) (o : Od) (hl : o.lm.length = ln) (hb' : o.bs.length = bn) (ho : o.Ok) : ∀ (m p : Nat) (pre : List Int) (A : Option Addr) (c B : Nat) (w : World),p + m = bn → pre.length = p → OrdAt w w.heap.size LA BA o → w.ownsRow B 3 1 (.slice A p c) p (inr pre).flatten → B ≤ w.heap.size → (allB (o.gs.drop p)).length ≤ 100000 →
  Calls Try.prog 21 #[.agg #[.slice LA ln lc,.int .i64 o.le,.int .i64 o.mo,.slice BA bn bc],.slice A p c] w (BlP w B ((allB (o.gs.drop p)).map fun l => pre ++ l)):=by
 have HB:=Lib.hid hb'
 have HL:=Lib.hid hl
 have HO:=Lib.hid ho
 have hbn4 : bn ≤ 4:=by rw [← hb']; exact ho.b2
 clear hb' hl ho
 obtain ⟨i3,hi3,hz3,hs3,iy3⟩:=info_parts info3'
 obtain ⟨i22,hi22,hz22,hs22,iy22⟩:=info_parts info22
 intro m
 induction m with
 | zero =>
  intro p pre A c B w hp hpl hA hP hBw hcap
  obtain rfl : p = bn:=by omega
  have k1:=Bx.new w 27 #[.slice LA ln lc,.int .i64 o.le,.int .i64 o.mo,.slice BA p bc]
  obtain ⟨l0,l1,l2,l3,lf',lz⟩:=k1.four
  have B0:=(Below.refl w.heap.size w).alloc (Nat.le_refl _) (.cells #[.slice LA ln lc,.int .i64 o.le,.int .i64 o.mo,.slice BA p bc] 27)
  have hP1:=hP.alloc (.cells #[.slice LA ln lc,.int .i64 o.le,.int .i64 o.mo,.slice BA p bc] 27)
  go_enter Try.func21,Try.ntmps21
  go_wp2_with fail
  have how : ((w.alloc (.cells #[.slice LA ln lc,.int .i64 o.le,.int .i64 o.mo,.slice BA p bc] 27)).alloc (.cells #[.slice A p c] 22)).ownsRow w.heap.size 22 1 (.slice (some ⟨w.heap.size + 1,0,none⟩) 1 1) 1 [.slice A p c]:=⟨rfl,.inr ⟨w.heap.size + 1,1,#[.slice A p c],rfl,by omega,Bx.at (w.alloc (.cells #[.slice LA ln lc,.int .i64 o.le,.int .i64 o.mo,.slice BA p bc] 27)) 22 #[.slice A p c] (n:=w.heap.size + 1) (by simp),by omega,by unfold maxLen; omega,rfl,rfl⟩⟩
  have hP2:=hP1.alloc (.cells #[.slice A p c] 22)
  have B1:=B0.alloc B0.size (.cells #[.slice A p c] 22)
  go_ret
  have e : (allB (o.gs.drop p)).map (fun l => pre ++ l) = [pre]:=by
   rw [List.drop_eq_nil_of_le (by rw [gs_len,HB.out]; exact Nat.le_refl _)]; simp [allB]
  rw [e]
  exact ⟨_,_,_,rfl,how,(LsOwn.nil _ B).snoc hpl hP2,B1⟩
 | succ m ih =>
  intro p pre A c B w hp hpl hA hP hBw hcap
  have hpb : p < bn:=by omega
  have hpo : p < o.bs.length:=by rw [HB.out]; exact hpb
  have IH:=Lib.hid ih
  have HP:=Lib.hid (And.intro hpl hp)
  have hgk:=(HO.out.bn hpo).g1
  have hgk6:=(HO.out.bn hpo).g2
  have hsh : (allB (o.gs.drop p)).map (fun l => pre ++ l) = lsK (o.gs.drop (p + 1)) pre ((o.bn p).g + 1).toNat:=by rw [gs_drop hpo]; exact (lsK_all _ _ _).symm
  have hcp : (allB (o.gs.drop p)).length = ((o.bn p).g + 1).toNat * (allB (o.gs.drop (p + 1))).length:=by
   have:=congrArg List.length hsh
   rw [List.length_map,lsK_len] at this
   exact this
  rw [hcp] at hcap
  rw [hsh]
  clear ih hpl hsh hcp
  obtain ⟨gp,hgp⟩ : ∃ x,(o.bn p).g = x:=⟨_,rfl⟩
  rw [hgp] at hgk hgk6 hcap ⊢
  have HGP:=Lib.hid hgp
  clear hgp
  have hne : ((p : Int) == (bn : Int)) = false:=by simp; omega
  have k1:=Bx.new w 27 #[.slice LA ln lc,.int .i64 o.le,.int .i64 o.mo,.slice BA bn bc]
  have B0:=(Below.refl w.heap.size w).alloc (Nat.le_refl _) (.cells #[.slice LA ln lc,.int .i64 o.le,.int .i64 o.mo,.slice BA bn bc] 27)
  obtain ⟨l0,l1,l2,l3,lf',lz⟩:=k1.four
  go_enter Try.func21,Try.ntmps21
  go_upto_region 3 with fail
  clear l0 l1 l2 l3 lf' lz
  obtain ⟨V,hV⟩ : ∃ V,w.alloc (.cells #[.slice LA ln lc,.int .i64 o.le,.int .i64 o.mo,.slice BA bn bc] 27) = V:=⟨_,rfl⟩
  rw [hV] at k1 B0 ⊢
  obtain ⟨b1,hb1⟩ : ∃ b,w.heap.size = b:=⟨_,rfl⟩
  have hb1w : w.heap.size ≤ b1:=by omega
  rw [hb1] at k1 ⊢
  clear hV
  go_wp2_with fail
  go_loopw [5,6] (fun ov v wr => ∃ (k : Nat) (VA : Option Addr) (vc : Nat) (vs : List Value),v = .int .i64 k ∧ (k : Int) ≤ gp + 1 ∧ ov = .slice VA (lsK (o.gs.drop (p + 1)) pre k).length vc ∧ wr.ownsRow w.heap.size 22 1 (.slice VA (lsK (o.gs.drop (p + 1)) pre k).length vc) (lsK (o.gs.drop (p + 1)) pre k).length vs ∧ LsOwn wr w.heap.size vs (lsK (o.gs.drop (p + 1)) pre k) ∧ Below w.heap.size w wr ∧ Bx wr b1 27 #[.slice LA ln lc,.int .i64 o.le,.int .i64 o.mo,.slice BA bn bc]) (fun _ v _ => (gp + 1 - intOf v).toNat)
  case atStart => exact ⟨0,none,0,[],rfl,by omega,rfl,World.ownsRow_nil _ _ _ _,.nil _ _,B0,k1⟩
  case round =>
   clear k1 B0
   obtain ⟨k,VA,vc,vs,rfl,hk,rfl,oV,LO,hBr,k1⟩:=hrel
   obtain ⟨l0,l1,l2,l3,lf',lz⟩:=k1.four
   obtain ⟨ba,G,gc,rfl,hba,-,-,-,p3,-⟩:=(hA.call hBr).bs.at_ hpo
   rw [Od.bn_eq hpo,HGP.out] at p3
   by_cases hkg : (k : Int) ≤ gp
   ·have hkw : IntKind.i64.wrap ((k : Int) + 1) = (k : Int) + 1:=IntWalk.i64_in _ (by omega)
    have hP2:=own_bel hP hBr
    have hA2:=hA.call hBr
    have hll:=lsK_len (o.gs.drop (p + 1)) pre k
    have hlm : (k + 1) * (allB (o.gs.drop (p + 1))).length ≤ 100000:=Nat.le_trans (Nat.mul_le_mul_right _ (by omega)) hcap
    rw [Nat.succ_mul] at hlm
    have hsub : (allB (o.gs.drop (p + 1))).length ≤ 100000:=by omega
    have hLs:=lsK_succ (o.gs.drop (p + 1)) pre k
    obtain ⟨nv,hnv⟩ : ∃ x,(lsK (o.gs.drop (p + 1)) pre k).length = x:=⟨_,rfl⟩
    rw [hnv] at oV hll ⊢
    have hBs:=hBr.size
    have HNV:=Lib.hid (And.intro hnv (And.intro hll hLs))
    have HLO:=Lib.hid LO
    have HBR:=Lib.hid hBr
    obtain ⟨xp,hxp⟩ : ∃ x,(inr pre).flatten = x:=⟨_,rfl⟩
    rw [hxp] at hP2
    have hxl : xp.length = p * 1:=by rw [← hxp,flat_len _ (inr_one pre)]; simp [inr,HP.out.1]
    have hx1 : ∀ u ∈ xp,u.oneCell' = true:=by
     rw [← hxp]
     intro u hu
     obtain ⟨r,hr,hu⟩:=List.mem_flatten.1 hu
     unfold inr at hr
     obtain ⟨x,_,rfl⟩:=List.mem_map.1 hr
     simp at hu
     rw [hu]; rfl
    have HXP:=Lib.hid hxp
    clear hxp LO hBr hnv hll hLs
    obtain ⟨U,hU⟩ : ∃ U,U = wr:=⟨_,rfl⟩
    subst hU
    go_wp2_with fail
    clear l0 l1 l2 l3 lf' lz p3
    refine AnyG.startC (by kernel_rfl) ?_
    refine AnyG.takeP (i:=0) (v:=?_) rfl (by kernel_rfl) (fun _ _ _ h => h) rfl ?_ ?_
    rotate_left
    ·(intro w'; go_simp; try with_reducible rfl)
    try simp only [Act.put,Sp1,Sp2,Sp3,Sp4,Sp5,Sp6]
    refine AnyG.takeP (i:=3) (v:=?_) rfl (by kernel_rfl) (fun _ _ _ h => h) rfl ?_ ?_
    rotate_left
    ·(intro w'; go_simp; try with_reducible rfl)
    try simp only [Act.put,Sp1,Sp2,Sp3,Sp4,Sp5,Sp6]
    refine AnyG.takeP (i:=5) (v:=?_) rfl (by kernel_rfl) (fun _ _ _ h => h) rfl ?_ ?_
    rotate_left
    ·(intro w'; go_simp; try with_reducible rfl)
    try simp only [Act.put,Sp1,Sp2,Sp3,Sp4,Sp5,Sp6]
    refine AnyG.enter (fun w' : World => Below U.heap.size U w') (fun i => i != 9 && i != 10) ?_
    have hS : (fun w' : World => Below U.heap.size U w') (U.drew):=(Below.refl _ _).drew
    try dsimp only at hS
    obtain ⟨y0,hy0⟩ : ∃ y,U.drew = y:=⟨_,rfl⟩
    rw [hy0] at hS ⊢
    clear hy0
    refine AnyG.takeC (i:=1) (v:=?_) rfl (by kernel_rfl) (fun _ _ _ h => h) rfl ?_ hS ?_
    rotate_left
    ·(intro w' hSw; (try dsimp only at hSw); obtain ⟨l0,l1,l2,l3,lf2,lz⟩:=(k1.call hSw).four; go_simp; try with_reducible rfl)
    try simp only [Act.put,Sp1,Sp2,Sp3,Sp4,Sp5,Sp6]
    refine AnyG.all (rs:=[2,6]) (by kernel_rfl) (by simp) ?_
    intro ii hii
    simp only [List.mem_cons,List.not_mem_nil,or_false] at hii
    rcases hii with rfl | rfl
    ·refine ⟨_,rfl,rfl,?_⟩
     go_simp
     have o28:=World.ownsRow_made (w:=y0) (base:=U.heap.size) (e:=3) (size:=1) #[] 0 hS.size (by unfold maxLen; omega) (by simp)
     have hT:=hS.alloc hS.size (.cells #[] 3)
     obtain ⟨z2,hy⟩ : ∃ x,y0.alloc (.cells #[] 3) = x:=⟨_,rfl⟩
     rw [hy] at o28 hT ⊢
     obtain ⟨b28,hbq⟩ : ∃ p,y0.heap.size = p:=⟨_,rfl⟩
     rw [hbq] at o28 ⊢
     clear hy hbq
     have hSn:=hT
     clear hS
     refine Onward.on hSn (fun hS => ?_)
     try dsimp only at hS
     clear hSn
     try simp only [Act.put,Sp1,Sp2,Sp3,Sp4,Sp5,Sp6]
     refine AnyG.all (rs:=[4,6]) (by kernel_rfl) (by simp) ?_
     intro ii hii
     simp only [List.mem_cons,List.not_mem_nil,or_false] at hii
     rcases hii with rfl | rfl
     ·refine ⟨_,rfl,rfl,?_⟩
      have hP4:=own_bel hP2 hS
      refine wp_app3 (.tmp 28) (.tmp 29) 22 rfl U.heap.size 3 i3 _ 1 8 Try.underlying22 hi3 hz3 hs3 iy3 rfl (by decide) (.slice (some ⟨b28,0,none⟩) 0 0) 0 [] (by simp [Act.eval]) o28 A p c xp (by simp [Act.eval]) hxl (own_cells hP4) hx1 (by unfold maxLen; omega) (by omega) hS.size ?_
      intro v30 z4 o30 g4 x4 r4
      rw [Nat.zero_add,List.nil_append] at o30
      obtain ⟨A30,c30,rfl⟩:=own_shape o30
      have hSn:=hS.grown g4 hS.size (fun q e => (o28.lt q e).1)
      clear hS
      refine Onward.on hSn (fun hS => ?_)
      try dsimp only at hS
      clear hSn
      try simp only [Act.put,Sp1,Sp2,Sp3,Sp4,Sp5,Sp6]
      refine AnyG.one (i:=6) (by kernel_rfl) rfl rfl ?_
      go_simp
      have k32:=Bx.new z4 3 #[.int .i64 k]
      replace o30:=o30.alloc (.cells #[.int .i64 k] 3)
      have hT:=hS.alloc hS.size (.cells #[.int .i64 k] 3)
      obtain ⟨z6,hy⟩ : ∃ x,z4.alloc (.cells #[.int .i64 k] 3) = x:=⟨_,rfl⟩
      rw [hy] at o30 k32 hT ⊢
      obtain ⟨b32,hbq⟩ : ∃ p,z4.heap.size = p:=⟨_,rfl⟩
      rw [hbq] at k32 ⊢
      clear hy hbq
      have hSn:=hT
      clear hS
      refine Onward.on hSn (fun hS => ?_)
      try dsimp only at hS
      clear hSn
      try simp only [Act.put,Sp1,Sp2,Sp3,Sp4,Sp5,Sp6]
      refine AnyG.one (i:=7) (by kernel_rfl) rfl rfl ?_
      refine wp_app3 (.tmp 30) (.tmp 32) 22 rfl U.heap.size 3 i3 _ 1 8 Try.underlying22 hi3 hz3 hs3 iy3 rfl (by decide) (.slice A30 p c30) p xp (by simp [Act.eval]) o30 (some ⟨b32,0,none⟩) 1 1 [.int .i64 k] (by simp [Act.eval]) rfl (fun j u hu => ⟨_,rfl,bx_news k32 j u hu⟩) (by simp [Value.oneCell']) (by unfold maxLen; omega) (by omega) hS.size ?_
      intro v33 z7 o33 g7 x7 r7
      obtain ⟨A33,c33,rfl⟩:=own_shape o33
      rw [← HXP.out,← inr_snoc] at o33
      have hSn:=hS.grown g7 hS.size (fun q e => (o30.lt q e).1)
      clear hS
      refine Onward.on hSn (fun hS => ?_)
      try dsimp only at hS
      clear hSn
      try simp only [Act.put,Sp1,Sp2,Sp3,Sp4,Sp5,Sp6]
      refine AnyG.one (i:=8) (by kernel_rfl) rfl rfl ?_
      go_simp
      have o33b:=ownsRow_up (b':=U.heap.size) o33 (fun q e => (o33.lt q e).1)
      refine (IH.out (p + 1) (pre ++ [(k : Int)]) A33 c33 U.heap.size _ (by have:=HP.out.2; omega) (by rw [List.length_append,HP.out.1]; rfl) (hA2.call hS) o33 hS.size hsub).mono ?_
      rintro e8 z8 ⟨RA,rc,vs2,rfl,oR,LR,hb8⟩
      rw [pre_snoc,List.length_map] at oR
      rw [pre_snoc] at LR
      rw [List.length_map]
      have hSn:=hS.trans (hb8.mono hS.size)
      clear hS
      refine Onward.on hSn (fun hS => ?_)
      try dsimp only at hS
      clear hSn
      try simp only [Act.put,Sp1,Sp2,Sp3,Sp4,Sp5,Sp6]
      refine AnyG.one (i:=9) (by kernel_rfl) rfl rfl ?_
      have oV9:=own_bel oV hS
      have LO9:=HLO.out.bel hS
      have k9:=k1.call hS
      have hz8:=hS.size
      refine wp_app3 (.tmp 26) (.tmp 34) 34 rfl w.heap.size 22 i22 _ 1 24 Try.underlying34 hi22 hz22 hs22 iy22 rfl (by decide) (.slice VA nv vc) nv vs (by simp [Act.eval]) oV9 RA (allB (o.gs.drop (p + 1))).length rc vs2 (by simp [Act.eval]) (by have:=oR.1; exact this) (own_cells oR) LR.one (by unfold maxLen; have:=HNV.out.2.1; omega) (by have:=HNV.out.2.1; omega) (by omega) ?_
      intro v35 z9 o35 g9 x9 r9
      obtain ⟨A35,c35,rfl⟩:=own_shape o35
      have hSn:=hS
      refine Onward.last rfl ?_
      try simp only [Act.put,Sp1,Sp2,Sp3,Sp4,Sp5,Sp6]
      refine AnyG.one (i:=10) (by kernel_rfl) rfl rfl ?_
      go_simp
      refine Onward.last rfl ?_
      try simp only [Act.put,Sp1,Sp2,Sp3,Sp4,Sp5,Sp6]
      refine AnyG.done (by kernel_rfl) ?_ _
      go_simp
      go_wp2_with fail
      go_roundw
      case rel =>
       have hLs:=HNV.out.2.2
       have hlen : (lsK (o.gs.drop (p + 1)) pre (k + 1)).length = nv + (allB (o.gs.drop (p + 1))).length:=by rw [hLs,List.length_append,List.length_map,HNV.out.1]
       have L1:=(LO9.own oV9 g9 (by decide)).append ((LR.own oV9 g9 (by decide)).up hBs)
       rw [← hLs] at L1
       refine ⟨k + 1,A35,c35,vs ++ vs2,by go_num,by omega,by rw [hlen],by rw [hlen]; exact o35,L1,?_,k9.grown g9 (own_bx oV9 k9 (by decide))⟩
       have hB9:=HBR.out.trans (hS.mono hBs)
       exact hB9.grown g9 hB9.size (fun q e => (oV9.lt q e).1)
      case measure => simp [intOf]; omega
     ·refine ⟨_,rfl,rfl,?_⟩
      go_simp
      have k32:=Bx.new z2 3 #[.int .i64 k]
      have a28 : some z2.heap.size ≠ (Value.slice (some ⟨b28,0,none⟩) 0 0).ownBlock:=fun h => by have:=(o28.lt b28 rfl).2; simp [Value.ownBlock] at h; omega
      replace o28:=o28.alloc (.cells #[.int .i64 k] 3)
      have hT:=hS.alloc hS.size (.cells #[.int .i64 k] 3)
      obtain ⟨z6,hy⟩ : ∃ x,z2.alloc (.cells #[.int .i64 k] 3) = x:=⟨_,rfl⟩
      rw [hy] at o28 k32 hT ⊢
      obtain ⟨b32,hbq⟩ : ∃ p,z2.heap.size = p:=⟨_,rfl⟩
      rw [hbq] at k32 a28 ⊢
      clear hy hbq
      have hSn:=hT
      clear hS
      refine Onward.on hSn (fun hS => ?_)
      try dsimp only at hS
      clear hSn
      try simp only [Act.put,Sp1,Sp2,Sp3,Sp4,Sp5,Sp6]
      refine AnyG.one (i:=4) (by kernel_rfl) rfl rfl ?_
      have hP4:=own_bel hP2 hS
      refine wp_app3 (.tmp 28) (.tmp 29) 22 rfl U.heap.size 3 i3 _ 1 8 Try.underlying22 hi3 hz3 hs3 iy3 rfl (by decide) (.slice (some ⟨b28,0,none⟩) 0 0) 0 [] (by simp [Act.eval]) o28 A p c xp (by simp [Act.eval]) hxl (own_cells hP4) hx1 (by unfold maxLen; omega) (by omega) hS.size ?_
      intro v30 z4 o30 g4 x4 r4
      rw [Nat.zero_add,List.nil_append] at o30
      obtain ⟨A30,c30,rfl⟩:=own_shape o30
      replace k32:=k32.grown g4 a28
      have hSn:=hS.grown g4 hS.size (fun q e => (o28.lt q e).1)
      clear hS
      refine Onward.on hSn (fun hS => ?_)
      try dsimp only at hS
      clear hSn
      try simp only [Act.put,Sp1,Sp2,Sp3,Sp4,Sp5,Sp6]
      refine AnyG.one (i:=7) (by kernel_rfl) rfl rfl ?_
      refine wp_app3 (.tmp 30) (.tmp 32) 22 rfl U.heap.size 3 i3 _ 1 8 Try.underlying22 hi3 hz3 hs3 iy3 rfl (by decide) (.slice A30 p c30) p xp (by simp [Act.eval]) o30 (some ⟨b32,0,none⟩) 1 1 [.int .i64 k] (by simp [Act.eval]) rfl (fun j u hu => ⟨_,rfl,bx_news k32 j u hu⟩) (by simp [Value.oneCell']) (by unfold maxLen; omega) (by omega) hS.size ?_
      intro v33 z7 o33 g7 x7 r7
      obtain ⟨A33,c33,rfl⟩:=own_shape o33
      rw [← HXP.out,← inr_snoc] at o33
      have hSn:=hS.grown g7 hS.size (fun q e => (o30.lt q e).1)
      clear hS
      refine Onward.on hSn (fun hS => ?_)
      try dsimp only at hS
      clear hSn
      try simp only [Act.put,Sp1,Sp2,Sp3,Sp4,Sp5,Sp6]
      refine AnyG.one (i:=8) (by kernel_rfl) rfl rfl ?_
      go_simp
      have o33b:=ownsRow_up (b':=U.heap.size) o33 (fun q e => (o33.lt q e).1)
      refine (IH.out (p + 1) (pre ++ [(k : Int)]) A33 c33 U.heap.size _ (by have:=HP.out.2; omega) (by rw [List.length_append,HP.out.1]; rfl) (hA2.call hS) o33 hS.size hsub).mono ?_
      rintro e8 z8 ⟨RA,rc,vs2,rfl,oR,LR,hb8⟩
      rw [pre_snoc,List.length_map] at oR
      rw [pre_snoc] at LR
      rw [List.length_map]
      have hSn:=hS.trans (hb8.mono hS.size)
      clear hS
      refine Onward.on hSn (fun hS => ?_)
      try dsimp only at hS
      clear hSn
      try simp only [Act.put,Sp1,Sp2,Sp3,Sp4,Sp5,Sp6]
      refine AnyG.one (i:=9) (by kernel_rfl) rfl rfl ?_
      have oV9:=own_bel oV hS
      have LO9:=HLO.out.bel hS
      have k9:=k1.call hS
      have hz8:=hS.size
      refine wp_app3 (.tmp 26) (.tmp 34) 34 rfl w.heap.size 22 i22 _ 1 24 Try.underlying34 hi22 hz22 hs22 iy22 rfl (by decide) (.slice VA nv vc) nv vs (by simp [Act.eval]) oV9 RA (allB (o.gs.drop (p + 1))).length rc vs2 (by simp [Act.eval]) (by have:=oR.1; exact this) (own_cells oR) LR.one (by unfold maxLen; have:=HNV.out.2.1; omega) (by have:=HNV.out.2.1; omega) (by omega) ?_
      intro v35 z9 o35 g9 x9 r9
      obtain ⟨A35,c35,rfl⟩:=own_shape o35
      have hSn:=hS
      refine Onward.last rfl ?_
      try simp only [Act.put,Sp1,Sp2,Sp3,Sp4,Sp5,Sp6]
      refine AnyG.one (i:=10) (by kernel_rfl) rfl rfl ?_
      go_simp
      refine Onward.last rfl ?_
      try simp only [Act.put,Sp1,Sp2,Sp3,Sp4,Sp5,Sp6]
      refine AnyG.done (by kernel_rfl) ?_ _
      go_simp
      go_wp2_with fail
      go_roundw
      case rel =>
       have hLs:=HNV.out.2.2
       have hlen : (lsK (o.gs.drop (p + 1)) pre (k + 1)).length = nv + (allB (o.gs.drop (p + 1))).length:=by rw [hLs,List.length_append,List.length_map,HNV.out.1]
       have L1:=(LO9.own oV9 g9 (by decide)).append ((LR.own oV9 g9 (by decide)).up hBs)
       rw [← hLs] at L1
       refine ⟨k + 1,A35,c35,vs ++ vs2,by go_num,by omega,by rw [hlen],by rw [hlen]; exact o35,L1,?_,k9.grown g9 (own_bx oV9 k9 (by decide))⟩
       have hB9:=HBR.out.trans (hS.mono hBs)
       exact hB9.grown g9 hB9.size (fun q e => (oV9.lt q e).1)
      case measure => simp [intOf]; omega
    ·refine ⟨_,rfl,rfl,?_⟩
     go_simp
     have k32:=Bx.new y0 3 #[.int .i64 k]
     have hT:=hS.alloc hS.size (.cells #[.int .i64 k] 3)
     obtain ⟨z6,hy⟩ : ∃ x,y0.alloc (.cells #[.int .i64 k] 3) = x:=⟨_,rfl⟩
     rw [hy] at k32 hT ⊢
     obtain ⟨b32,hbq⟩ : ∃ p,y0.heap.size = p:=⟨_,rfl⟩
     rw [hbq] at k32 ⊢
     clear hy hbq
     have hSn:=hT
     clear hS
     refine Onward.on hSn (fun hS => ?_)
     try dsimp only at hS
     clear hSn
     try simp only [Act.put,Sp1,Sp2,Sp3,Sp4,Sp5,Sp6]
     refine AnyG.one (i:=2) (by kernel_rfl) rfl rfl ?_
     go_simp
     have o28:=World.ownsRow_made (w:=z6) (base:=U.heap.size) (e:=3) (size:=1) #[] 0 hS.size (by unfold maxLen; omega) (by simp)
     have a28 : some b32 ≠ (Value.slice (some ⟨z6.heap.size,0,none⟩) 0 0).ownBlock:=fun h => by have:=k32.lt; simp [Value.ownBlock] at h; omega
     replace k32:=k32.alloc (.cells #[] 3)
     have hT:=hS.alloc hS.size (.cells #[] 3)
     obtain ⟨z2,hy⟩ : ∃ x,z6.alloc (.cells #[] 3) = x:=⟨_,rfl⟩
     rw [hy] at k32 o28 hT ⊢
     obtain ⟨b28,hbq⟩ : ∃ p,z6.heap.size = p:=⟨_,rfl⟩
     rw [hbq] at o28 a28 ⊢
     clear hy hbq
     have hSn:=hT
     clear hS
     refine Onward.on hSn (fun hS => ?_)
     try dsimp only at hS
     clear hSn
     try simp only [Act.put,Sp1,Sp2,Sp3,Sp4,Sp5,Sp6]
     refine AnyG.one (i:=4) (by kernel_rfl) rfl rfl ?_
     have hP4:=own_bel hP2 hS
     refine wp_app3 (.tmp 28) (.tmp 29) 22 rfl U.heap.size 3 i3 _ 1 8 Try.underlying22 hi3 hz3 hs3 iy3 rfl (by decide) (.slice (some ⟨b28,0,none⟩) 0 0) 0 [] (by simp [Act.eval]) o28 A p c xp (by simp [Act.eval]) hxl (own_cells hP4) hx1 (by unfold maxLen; omega) (by omega) hS.size ?_
     intro v30 z4 o30 g4 x4 r4
     rw [Nat.zero_add,List.nil_append] at o30
     obtain ⟨A30,c30,rfl⟩:=own_shape o30
     replace k32:=k32.grown g4 a28
     have hSn:=hS.grown g4 hS.size (fun q e => (o28.lt q e).1)
     clear hS
     refine Onward.on hSn (fun hS => ?_)
     try dsimp only at hS
     clear hSn
     try simp only [Act.put,Sp1,Sp2,Sp3,Sp4,Sp5,Sp6]
     refine AnyG.one (i:=7) (by kernel_rfl) rfl rfl ?_
     refine wp_app3 (.tmp 30) (.tmp 32) 22 rfl U.heap.size 3 i3 _ 1 8 Try.underlying22 hi3 hz3 hs3 iy3 rfl (by decide) (.slice A30 p c30) p xp (by simp [Act.eval]) o30 (some ⟨b32,0,none⟩) 1 1 [.int .i64 k] (by simp [Act.eval]) rfl (fun j u hu => ⟨_,rfl,bx_news k32 j u hu⟩) (by simp [Value.oneCell']) (by unfold maxLen; omega) (by omega) hS.size ?_
     intro v33 z7 o33 g7 x7 r7
     obtain ⟨A33,c33,rfl⟩:=own_shape o33
     rw [← HXP.out,← inr_snoc] at o33
     have hSn:=hS.grown g7 hS.size (fun q e => (o30.lt q e).1)
     clear hS
     refine Onward.on hSn (fun hS => ?_)
     try dsimp only at hS
     clear hSn
     try simp only [Act.put,Sp1,Sp2,Sp3,Sp4,Sp5,Sp6]
     refine AnyG.one (i:=8) (by kernel_rfl) rfl rfl ?_
     go_simp
     have o33b:=ownsRow_up (b':=U.heap.size) o33 (fun q e => (o33.lt q e).1)
     refine (IH.out (p + 1) (pre ++ [(k : Int)]) A33 c33 U.heap.size _ (by have:=HP.out.2; omega) (by rw [List.length_append,HP.out.1]; rfl) (hA2.call hS) o33 hS.size hsub).mono ?_
     rintro e8 z8 ⟨RA,rc,vs2,rfl,oR,LR,hb8⟩
     rw [pre_snoc,List.length_map] at oR
     rw [pre_snoc] at LR
     rw [List.length_map]
     have hSn:=hS.trans (hb8.mono hS.size)
     clear hS
     refine Onward.on hSn (fun hS => ?_)
     try dsimp only at hS
     clear hSn
     try simp only [Act.put,Sp1,Sp2,Sp3,Sp4,Sp5,Sp6]
     refine AnyG.one (i:=9) (by kernel_rfl) rfl rfl ?_
     have oV9:=own_bel oV hS
     have LO9:=HLO.out.bel hS
     have k9:=k1.call hS
     have hz8:=hS.size
     refine wp_app3 (.tmp 26) (.tmp 34) 34 rfl w.heap.size 22 i22 _ 1 24 Try.underlying34 hi22 hz22 hs22 iy22 rfl (by decide) (.slice VA nv vc) nv vs (by simp [Act.eval]) oV9 RA (allB (o.gs.drop (p + 1))).length rc vs2 (by simp [Act.eval]) (by have:=oR.1; exact this) (own_cells oR) LR.one (by unfold maxLen; have:=HNV.out.2.1; omega) (by have:=HNV.out.2.1; omega) (by omega) ?_
     intro v35 z9 o35 g9 x9 r9
     obtain ⟨A35,c35,rfl⟩:=own_shape o35
     have hSn:=hS
     refine Onward.last rfl ?_
     try simp only [Act.put,Sp1,Sp2,Sp3,Sp4,Sp5,Sp6]
     refine AnyG.one (i:=10) (by kernel_rfl) rfl rfl ?_
     go_simp
     refine Onward.last rfl ?_
     try simp only [Act.put,Sp1,Sp2,Sp3,Sp4,Sp5,Sp6]
     refine AnyG.done (by kernel_rfl) ?_ _
     go_simp
     go_wp2_with fail
     go_roundw
     case rel =>
      have hLs:=HNV.out.2.2
      have hlen : (lsK (o.gs.drop (p + 1)) pre (k + 1)).length = nv + (allB (o.gs.drop (p + 1))).length:=by rw [hLs,List.length_append,List.length_map,HNV.out.1]
      have L1:=(LO9.own oV9 g9 (by decide)).append ((LR.own oV9 g9 (by decide)).up hBs)
      rw [← hLs] at L1
      refine ⟨k + 1,A35,c35,vs ++ vs2,by go_num,by omega,by rw [hlen],by rw [hlen]; exact o35,L1,?_,k9.grown g9 (own_bx oV9 k9 (by decide))⟩
      have hB9:=HBR.out.trans (hS.mono hBs)
      exact hB9.grown g9 hB9.size (fun q e => (oV9.lt q e).1)
     case measure => simp [intOf]; omega
   ·have hk2 : (k : Int) = gp + 1:=by omega
    go_wp2_with fail
    go_ret
    have e : (gp + 1).toNat = k:=by omega
    rw [e]
    exact ⟨VA,vc,vs,rfl,oV,LO.up hBw,hBr⟩
 
end Go.Proofs.Ytmemcopfeabcgaa
