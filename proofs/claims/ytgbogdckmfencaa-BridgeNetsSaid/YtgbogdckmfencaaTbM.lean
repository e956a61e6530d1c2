/- bridge.netLoads. -/
import Derived.Test.YtgbogdckmfencaaW1M
import Derived.Test.YtgbogdckmfencaaReachM
import Derived.RangeFuncBox
import Derived.RangeFuncOne
set_option linter.unusedSimpArgs false
set_option linter.unusedVariables false
namespace Go.Proofs.Ytgbogdckmfencaa
open Go.RowKit Go.Shelf
attribute [local go_sem] Oper.semAt_some
def cov (a b : Int × Int) : Int × Int:=(min a.1 b.1,max a.2 b.2)
def noth : Int × Int:=(1073741824,-1073741824)
def covers (f : Int → Int × Int) (zs : List Int) : Int × Int:=zs.foldl (fun r z => cov r (f z)) noth
theorem covers_snoc (f : Int → Int × Int) (zs : List Int) (z : Int) : covers f (zs ++ [z]) = cov (covers f zs) (f z):=by simp [covers]
theorem bx_own (B t : Nat) {α : Type} (g : α → Array Value) : Own (fun (s : α) W => Bx W B t (g s)):=fun s A C row hs hg hr => by
 refine Bx.grown hs hg fun e => ?_
 obtain ⟨o,h1,h2⟩:=hr _ e.symm
 unfold Bx at hs
 rw [hs] at h1
 cases h1
 cases h2
theorem keepsFrom_below {B : Nat} {W W' : World} (hb : Below W.heap.size W W') : KeepsFrom B W W':=⟨hb.size,fun k _ _ ho _ => (hb.block k (Array.getElem?_eq_some_iff.1 ho).1).trans ho⟩
set_option maxRecDepth 100000 in
set_option maxHeartbeats 4000000 in
theorem netLoads_any (x0 y z u wv : Value) (k0 k1 : Int) (f : Nat → Int × Int) (n : Nat) (T : Nat → Int × Int) (w : World) (hn : 1 ≤ n) (hn2 : n ≤ 14) (hf : f 0 = (k0,k1)) (b1 : -200 ≤ k0) (b2 : k1 ≤ 200) (b3 : k0 ≤ 200) (b4 : -200 ≤ k1)
  (h92 : ∀ W,Below w.heap.size w W → Calls Try.prog 92 #[.agg #[x0,y,z,u],.agg (zarr f),wv] W fun e W' => (∃ tb,e = .returned (.slice (some ⟨tb,0,none⟩) n n) ∧ W.heap.size ≤ tb ∧ Bx W' tb 135 (parr (n * 401) T)) ∧ Below W.heap.size W W') :
  Calls Try.prog 69 #[.agg #[x0,y,z,u],.agg (zarr f),wv] w fun e w' => e = .returned (.agg #[.int .i64 (covers (fun z => T (z + 200).toNat) (rngL k0 k1)).1,.int .i64 (covers (fun z => T (z + 200).toNat) (rngL k0 k1)).2]) ∧ Below w.heap.size w w':=by
 have h92':=Lib.hid h92
 clear h92
 have hpar1:=fun i (hi : i < n * 401) => parr_fst (n * 401) T (i:=i) (j:=i * 2) hi rfl
 have HP1:=Lib.hid hpar1
 clear hpar1
 have HF:=Lib.hid hf
 clear hf
 refine (callsIn_wide (n:=5)).1 ?_
 refine callsIn_of_wp_marks Try.func69 rfl trivial ?_ rfl
 refine wpIn_wide.2 ?_
 simp only [Try.ntmps69,List.size_toArray,List.length_cons,List.length_nil,Nat.reduceAdd,Nat.reduceSub,Array.replicate_succ,Array.replicate_zero,List.push_toArray,List.append_toArray,List.nil_append,List.cons_append]
 have k4:=((Bx.at (w.alloc (.cells #[x0,y,z,u] 26)) 91 (zarr f) (n:=w.heap.size + 1) (by simp)).alloc (.cells #[.int .i64 0,.int .i64 0] 23))
 have HK4:=Lib.hid k4
 have k6:=Bx.at ((w.alloc (.cells #[x0,y,z,u] 26)).alloc (.cells (zarr f) 91)) 23 #[.int .i64 0,.int .i64 0] (n:=w.heap.size + 1 + 1) (by simp)
 have HK6:=Lib.hid k6
 clear k4 k6
 have HB0:=Lib.hid ((((Below.refl w.heap.size w).alloc (Nat.le_refl _) (.cells #[x0,y,z,u] 26)).alloc (by simp) (.cells (zarr f) 91)).alloc (by simp; omega) (.cells #[.int .i64 0,.int .i64 0] 23))
 go_wp2_with (first
  | ((with_reducible (show wpList _ _ _ (⟨some 11,_,_,_,_,_⟩ :: _) _ _)); refine wpList_load_row rfl 91 (.tmp 4) rfl (w.heap.size + 1) rfl 91 _ (0,0) _ HK4.out Try.underlying91 rfl (by rw [zarr_size]; kernel_rfl) ?_)
  | (go_at_call 92; refine (h92'.out _ HB0.out).mono ?_; rintro e w1 ⟨⟨tb,rfl,htb,hbx⟩,hb⟩; have K4:=HK4.out.call hb; have K6:=HK6.out.call hb; have HB1:=HB0.out.trans (hb.mono HB0.out.size))
  | (go_at_call 93; refine (nothing_any _).mono ?_; rintro e w2 ⟨rfl,hb2⟩; have K7:=(Bx.new w1 128 #[.slice (some ⟨tb,0,none⟩) n n]).call hb2; have K4b:=(K4.alloc (.cells #[.slice (some ⟨tb,0,none⟩) n n] 128)).call hb2; have K6b:=(K6.alloc (.cells #[.slice (some ⟨tb,0,none⟩) n n] 128)).call hb2; have hbx2:=(hbx.alloc (.cells #[.slice (some ⟨tb,0,none⟩) n n] 128)).call hb2; have HB2:=(HB1.alloc HB1.size (.cells #[.slice (some ⟨tb,0,none⟩) n n] 128)).trans (hb2.mono (by have:=HB1.size; simp; omega)); have e0 : (w2.alloc (.cells #[.int .i64 1073741824,.int .i64 (-1073741824)] 23)).cell? ⟨w.heap.size + 1,0,none⟩ = some (.int .i64 k0):=(by have:=((K4b.alloc (.cells #[.int .i64 1073741824,.int .i64 (-1073741824)] 23)).cell (0 * 2)).trans (zarr_fst f (by omega)); rw [HF.out] at this; exact this); have e1 : (w2.alloc (.cells #[.int .i64 1073741824,.int .i64 (-1073741824)] 23)).cell? ⟨w.heap.size + 1,1,none⟩ = some (.int .i64 k1):=(by have:=((K4b.alloc (.cells #[.int .i64 1073741824,.int .i64 (-1073741824)] 23)).cell (0 * 2 + 1)).trans (zarr_snd f (by omega)); rw [HF.out] at this; exact this))
  | (go_at_call 94; refine (numbers_any _ _ _).mono ?_; rintro e w3 ⟨rfl,rfl⟩))
 have B8:=(Bx.new w2 23 #[.int .i64 1073741824,.int .i64 (-1073741824)]).alloc (.cells #[.int .i64 k0,.int .i64 k1] 23)
 have Bg:=Bx.at (w2.alloc (.cells #[.int .i64 1073741824,.int .i64 (-1073741824)] 23)) 23 #[.int .i64 k0,.int .i64 k1] (n:=w2.heap.size + 1) (by simp)
 have K7c:=(K7.alloc (.cells #[.int .i64 1073741824,.int .i64 (-1073741824)] 23)).alloc (.cells #[.int .i64 k0,.int .i64 k1] 23)
 have hbx3:=(hbx2.alloc (.cells #[.int .i64 1073741824,.int .i64 (-1073741824)] 23)).alloc (.cells #[.int .i64 k0,.int .i64 k1] 23)
 have K6c:=(K6b.alloc (.cells #[.int .i64 1073741824,.int .i64 (-1073741824)] 23)).alloc (.cells #[.int .i64 k0,.int .i64 k1] 23)
 have HB3:=(HB2.alloc HB2.size (.cells #[.int .i64 1073741824,.int .i64 (-1073741824)] 23)).alloc (by have:=HB2.size; simp; omega) (.cells #[.int .i64 k0,.int .i64 k1] 23)
 have d1 : w.heap.size + 1 + 1 < w1.heap.size:=K6.lt
 have d2 : w1.heap.size < w2.heap.size:=K7.lt
 have d3 : tb < w1.heap.size:=hbx.lt
 have d4 : w.heap.size + 3 ≤ tb:=by simpa using htb
 obtain ⟨W0,hW0⟩ : ∃ W0,(w2.alloc (.cells #[.int .i64 1073741824,.int .i64 (-1073741824)] 23)).alloc (.cells #[.int .i64 k0,.int .i64 k1] 23) = W0:=⟨_,rfl⟩
 have d5 : W0.heap.size = w2.heap.size + 2:=by rw [← hW0]; simp
 rw [hW0] at B8 Bg K7c hbx3 K6c HB3 ⊢
 clear hW0 e0 e1 hbx2 K6b K4b K7 HB2 hb2 HB1 K6 K4 hbx hb htb HK4 HK6 HB0 h92'
 have hn0 : 0 < n:=by omega
 refine (wpIn_wide (n:=5)).1 ?_
 refine wpIn_rangeFunc_ownH (F:=Fence.wide) rfl (by omega) (gf:=105) (lb:=#[.pointer (some ⟨w2.heap.size + 1,0,none⟩)]) rfl trivial (enters_of Try.func105 (by kernel_rfl) rfl)
  (numbers1_stops Fence.wide (5 - 1) trivial rfl (by omega) (w2.heap.size + 1) k0 k1 (by omega) (by omega) (by omega) (by omega) W0 Bg) (fun h k => sameBox_t h k) (sameBox_b Bg.lt) (Below.refl _ _) (fun _ => rfl)
  (fun pre W => ((((Bx W w2.heap.size 23 #[.int .i64 (covers (fun z => T (z + 200).toNat) (pre.map (·.1))).1,.int .i64 (covers (fun z => T (z + 200).toNat) (pre.map (·.1))).2]) ∧ Bx W w1.heap.size 128 #[.slice (some ⟨tb,0,none⟩) n n]) ∧ Bx W tb 135 (parr (n * 401) T)) ∧ Bx W (w.heap.size + 1 + 1) 23 #[.int .i64 0,.int .i64 0]) ∧ Below w.heap.size w W)
  (fun _ _ _ => False)
  (OwnFrom.and (OwnFrom.and (OwnFrom.and (OwnFrom.and (Own.from (bx_own _ _ _) _) (Own.from (bx_own _ _ _) _)) (Own.from (bx_own _ _ _) _)) (Own.from (bx_own _ _ _) _)) (ownFrom_below (Nat.le_refl _) (by omega)))
  (fun _ _ _ _ _ hs _ _ => hs)
  ⟨⟨⟨⟨B8,K7c⟩,hbx3⟩,K6c⟩,HB3⟩
  (fun x a' _ => a' = { tmps:=#[.agg #[x0,y,z,u],.agg (zarr f),wv,.pointer (some ⟨w.heap.size,0,none⟩),.pointer (some ⟨w.heap.size + 1,0,none⟩),undef,.pointer (some ⟨w.heap.size + 1 + 1,0,none⟩),.pointer (some ⟨w1.heap.size,0,none⟩),.pointer (some ⟨w2.heap.size,0,none⟩),.int .i64 x.1,.agg #[x0,y,z,u],.agg (zarr f),wv,.slice (some ⟨tb,0,none⟩) n n,.agg #[.int .i64 1073741824,.int .i64 (-1073741824)],.pointer (some ⟨w.heap.size + 1,0,none⟩),.agg #[.int .i64 k0,.int .i64 k1],.func (.func 105) #[] #[.pointer (some ⟨w2.heap.size + 1,0,none⟩)],.int .i64 x.1,undef,undef,undef,undef,undef,undef,undef,undef,undef],defers:=[] })
  (fun _ _ _ _ _ _ hs _ _ => hs)
  ?assign ?body ?done ?stop
 case assign =>
  rintro l pre x W K hi hK
  gi_wp2
  exact hK _ _ (KeepsFrom.refl _ _) rfl hi rfl
 case body =>
  rintro l pre x a' W hl ⟨r,hr⟩ ⟨⟨⟨⟨b8,b7⟩,bt⟩,b6⟩,hBW⟩ rfl hlt
  have hx1:=x.2.1
  have hx2:=x.2.2
  obtain ⟨xx,hxx⟩ : ∃ xx,x.1 = xx:=⟨_,rfl⟩
  rw [hxx] at hx1 hx2 ⊢
  have HX:=Lib.hid hxx
  clear hxx
  obtain ⟨cv,hcv⟩ : ∃ cv,covers (fun z => T (z + 200).toNat) (pre.map (·.1)) = cv:=⟨_,rfl⟩
  rw [hcv] at b8
  have HCV:=Lib.hid hcv
  clear hcv
  have hlW:=(Array.getElem?_eq_some_iff.1 hr).1
  have HR:=Lib.hid hr
  clear hr
  obtain ⟨t0,t1,tf,tz⟩:=b8.two
  obtain ⟨s0,sf,sz⟩:=b7.one
  have p0:=(bt.cell ((xx + 200).toNat * 2)).trans (parr_fst (n * 401) T (i:=(xx + 200).toNat) (by omega) rfl)
  have p1:=(bt.cell ((xx + 200).toNat * 2 + 1)).trans (parr_snd (n * 401) T (i:=(xx + 200).toNat) (by omega) rfl)
  refine wpIn_block ?_
  refine AnyG.startIn (fun w' : World => Below W.heap.size W w') (fun i => i != 8) (by kernel_rfl) (by kernel_rfl) (fun _ _ h => h) ?_
  have hS : (fun w' : World => Below W.heap.size W w') (World.drew _):=(Below.refl _ _).drew
  refine AnyG.take (i:=0) (v:=?_) rfl (by kernel_rfl) (fun _ _ _ h => h) rfl ?_ hS ?_
  rotate_left
  ·(intro w' hSw; (try dsimp only at hSw); have t0:=cellC hSw t0; have t1:=cellC hSw t1; go_simp; try with_reducible rfl)
  try simp only [Act.put,Sp4,Sp5,Sp6]
  refine AnyG.take (i:=1) (v:=?_) rfl (by kernel_rfl) (fun _ _ _ h => h) rfl ?_ hS ?_
  rotate_left
  ·(intro w' hSw; (try dsimp only at hSw); have s0:=cellC hSw s0; go_simp; try with_reducible rfl)
  try simp only [Act.put,Sp4,Sp5,Sp6]
  refine AnyG.take (i:=2) (v:=?_) rfl (by kernel_rfl) (fun _ _ _ h => h) rfl ?_ hS ?_
  rotate_left
  ·(intro w' _; go_simp; try with_reducible rfl)
  try simp only [Act.put,Sp4,Sp5,Sp6]
  refine AnyG.take (i:=4) (v:=?_) rfl (by kernel_rfl) (fun _ _ _ h => h) rfl ?_ hS ?_
  rotate_left
  ·(intro w' _; go_simp; try with_reducible rfl)
  try simp only [Act.put,Sp4,Sp5,Sp6]
  refine RegRel.AnyG.rel [0,1,2,4] [8] [[],[],[],[],[],[3],[3,5],[3,5,6],[3,5,6,7]] [(22,3),(24,5),(25,6),(26,7)] [(3,fun vs _ => vs 3 = .int .i64 (xx + 200)),(5,fun vs _ => vs 5 = .pointer (some ⟨tb,(xx + 200).toNat * 2,none⟩)),(6,fun vs _ => vs 6 = .agg #[.int .i64 (T (xx + 200).toNat).1,.int .i64 (T (xx + 200).toNat).2]),
    (7,fun vs _ => vs 7 = .agg #[.int .i64 (min cv.1 (T (xx + 200).toNat).1),.int .i64 (max cv.2 (T (xx + 200).toNat).2)])]
    (by kernel_rfl) (by kernel_rfl) (by kernel_rfl) (by decide) (by decide) (fun _ h => Below.trans ((Below.refl W.heap.size W).drew) h) ?hst ?hcg ?hstep ?hfin
  case hst => exact ⟨fun _ _ _ h _ => h,fun _ _ _ h _ => h,fun _ _ _ h _ => h,fun _ _ _ h _ => h,trivial⟩
  case hcg => exact ⟨fun _ _ _ he h => (he 3 (by simp)).trans h,fun _ _ _ he h => (he 5 (by simp)).trans h,fun _ _ _ he h => (he 6 (by simp)).trans h,fun _ _ _ he h => (he 7 (by simp)).trans h,trivial⟩
  case hstep =>
   refine ⟨?_,?_,?_,?_,trivial⟩
   ·rintro vs v1 - hv
    refine ⟨_,_,rfl,rfl,?_⟩
    clear hS
    simp only [RegRel.fillT,List.foldl_cons,List.foldl_nil,Sp4,Sp5,Sp6]
    go_simp
    refine (place_any xx _ (by omega) (by omega)).mono ?_
    rintro r v2 ⟨rfl,rfl⟩
    first | exact ⟨rfl,Below.refl _ _,rfl⟩ | exact ⟨rfl,Below.refl _ _⟩ | exact Below.refl _ _
   ·rintro vs v1 ⟨h3,-⟩ hv
    refine ⟨_,_,rfl,rfl,?_⟩
    clear hS
    dsimp only at h3
    simp only [RegRel.fillT,List.foldl_cons,List.foldl_nil,Sp4,Sp5,Sp6]
    simp only [h3]
    clear h3
    have q1 : 0 ≤ xx + 200:=by omega
    have q2 : xx + 200 < 401:=by omega
    go_simp
    first | exact ⟨rfl,Below.refl _ _,rfl⟩ | exact ⟨rfl,Below.refl _ _⟩ | exact Below.refl _ _ | trace_state
   ·rintro vs v1 ⟨h3,h5,-⟩ hv
    refine ⟨_,_,rfl,rfl,?_⟩
    clear hS
    dsimp only at h3 h5
    simp only [RegRel.fillT,List.foldl_cons,List.foldl_nil,Sp4,Sp5,Sp6]
    simp only [h5]
    clear h3 h5
    have p0:=cellC (W:=W.drew) hv p0
    have p1:=cellC (W:=W.drew) hv p1
    go_simp
    first | exact ⟨rfl,Below.refl _ _,rfl⟩ | exact ⟨rfl,Below.refl _ _⟩ | exact Below.refl _ _ | trace_state
   ·rintro vs v1 ⟨h3,h5,h6,-⟩ hv
    refine ⟨_,_,rfl,rfl,?_⟩
    clear hS
    dsimp only at h3 h5 h6
    simp only [RegRel.fillT,List.foldl_cons,List.foldl_nil,Sp4,Sp5,Sp6]
    simp only [h6]
    clear h3 h5 h6
    go_simp
    refine (cover_any _ _ _ _ _).mono ?_
    rintro r v2 ⟨rfl,hb2⟩
    first | exact ⟨rfl,hb2,rfl⟩ | exact ⟨rfl,hb2⟩ | exact hb2 | trace_state
  case hfin =>
   rintro vs v1 ⟨h3,h5,h6,h7,-⟩ hv
   clear hS
   dsimp only at h3 h5 h6 h7
   simp only [List.filter_cons,List.contains_cons,List.contains_nil,Nat.reduceBEq,Bool.or_false,Bool.not_false,if_true,List.filter_nil]
   simp only [RegRel.fillT,List.foldl_cons,List.foldl_nil,Sp4,Sp5,Sp6]
   simp only [h3,h5,h6,h7]
   clear h3 h5 h6 h7
   have b8':=b8.drew.call hv
   obtain ⟨t0',t1',tf',tz'⟩:=b8'.two
   clear t0 t1 tf tz s0 sf sz p0 p1
   refine RegRel.wpOps_go rfl rfl ?_
   go_simp
   refine RegRel.wpOps_end ?_
   have hvW : Below W.heap.size W v1:=((Below.refl W.heap.size W).drew).trans hv
   have e : covers (fun z => T (z + 200).toNat) ((pre ++ [x]).map (·.1)) = cov cv (T (xx + 200).toNat):=by rw [List.map_append,List.map_cons,List.map_nil,covers_snoc,HCV.out,HX.out]
   refine ⟨(keepsFrom_below hvW).trans (((KeepsOthers.setCell _ _ _).from _).trans ((KeepsOthers.setCell _ _ _).from _)),?_,⟨⟨⟨⟨?_,?_⟩,?_⟩,?_⟩,?_⟩⟩
   ·exact (Below.heap_setCell _ _ _ _ (by simp)).trans ((Below.heap_setCell _ _ _ _ (by simp)).trans (hvW.block _ (by omega)))
   ·show Bx _ _ 23 #[.int .i64 (covers (fun z => T (z + 200).toNat) ((pre ++ [x]).map (·.1))).1,.int .i64 (covers (fun z => T (z + 200).toNat) ((pre ++ [x]).map (·.1))).2]
    rw [e]
    exact (b8'.set_ 0 _).set_ 1 _
   ·exact ((b7.drew.call hv).far (by simp; omega) _).far (by simp; omega) _
   ·exact ((bt.drew.call hv).far (by simp; omega) _).far (by simp; omega) _
   ·exact ((b6.drew.call hv).far (by simp; omega) _).far (by simp; omega) _
   ·exact ((hBW.trans (hvW.mono hBW.size)).setCell (p:=⟨w2.heap.size,0,none⟩) (by simp; omega) _).setCell (p:=⟨w2.heap.size,1,none⟩) (by simp; omega) _
 case done =>
  rintro D ys W hD hys ⟨⟨⟨⟨b8,b7⟩,bt⟩,b6⟩,hBW⟩ hKD
  rw [hys] at b8
  obtain ⟨cv,hcv⟩ : ∃ cv,covers (fun z => T (z + 200).toNat) (rngL k0 k1) = cv:=⟨_,rfl⟩
  rw [hcv] at b8
  have HCV:=Lib.hid hcv
  clear hcv
  have HKD:=Lib.hid hKD
  clear hKD
  obtain ⟨t0,t1,tf,tz⟩:=b8.two
  obtain ⟨r0,r1,rf,rz⟩:=b6.two
  go_wp2
  have hDb : w.heap.size + 1 + 1 ≠ D:=by omega
  refine leavesM_marks (B:=w.heap.size) _ _ ⟨[D],rfl,by simp,fun D' hD' => ?_⟩ ?_
  ·obtain rfl : D' = D:=by simpa using hD'
   exact ⟨by omega,(Below.heap_setCell _ _ _ _ (Ne.symm hDb)).trans ((Below.heap_setCell _ _ _ _ (Ne.symm hDb)).trans HKD.out)⟩
  ·intro W' hb hk _
   have bz : Bx W' (w.heap.size + 1 + 1) 23 #[.int .i64 cv.1,.int .i64 cv.2]:=(hk _ (by simp; omega)).trans ((b6.set_ 0 _).set_ 1 _)
   obtain ⟨z0,z1,zf,zz⟩:=bz.two
   refine ⟨.agg #[.int .i64 cv.1,.int .i64 cv.2],by simp [results,Try.results69,go_sem,z0,z1],by rw [HCV.out],?_⟩
   exact ((hBW.setCell (p:=⟨w.heap.size + 1 + 1,0,none⟩) (by simp; omega) _).setCell (p:=⟨w.heap.size + 1 + 1,1,none⟩) (by simp; omega) _).trans hb
 case stop =>
  rintro D c pre W _ _ h _
  exact h.elim
end Go.Proofs.Ytgbogdckmfencaa

/-! The tables of bridge.weightsFrom, as plain mathematics. -/
namespace Go.Proofs.Ytgbogdckmfencaa
open Go.RowKit
theorem snoc_ind {α : Type} {p : List α → Prop} (h0 : p []) (h1 : ∀ l a,p l → p (l ++ [a])) : ∀ l,p l:=by
 have : ∀ l : List α,p l.reverse:=by
  intro l
  induction l with
  | nil => exact h0
  | cons a l ih => rw [List.reverse_cons]; exact h1 _ _ ih
 intro l
 have:=this l.reverse
 rwa [List.reverse_reverse] at this
/-- The place of a zero at an event. -/
def ix (e : Nat) (z : Int) : Nat:=e * 401 + (z + 200).toNat
theorem ix_lt {e n : Nat} {z : Int} (he : e < n) (h1 : -200 ≤ z) (h2 : z ≤ 200) : ix e z < n * 401:=by
 unfold ix
 have : (e + 1) * 401 ≤ n * 401:=Nat.mul_le_mul_right _ he
 omega
/-- What truths weigh from the next event on. -/
def restOf (fol : Nat → Int → Int × Int) (last : Bool) (e : Nat) (T : Nat → Int × Int) (z : Int) : Int × Int :=
 if last then (0,0) else covers (fun nx => T (ix (e + 1) nx)) (rngL (fol e z).1 (fol e z).2)
def valOf (wt fol : Nat → Int → Int × Int) (last : Bool) (e : Nat) (T : Nat → Int × Int) (z : Int) : Int × Int :=
 ((wt e z).1 + (restOf fol last e T z).1,(wt e z).2 + (restOf fol last e T z).2)
/-- A row is filled, zero by zero. -/
def fill (wt fol : Nat → Int → Int × Int) (last : Bool) (e : Nat) (T : Nat → Int × Int) (zs : List Int) : Nat → Int × Int :=
 zs.foldl (fun S z => upd S (ix e z) (valOf wt fol last e T z)) T
theorem fill_snoc (wt fol : Nat → Int → Int × Int) (last : Bool) (e : Nat) (T : Nat → Int × Int) (zs : List Int) (z : Int) :
  fill wt fol last e T (zs ++ [z]) = upd (fill wt fol last e T zs) (ix e z) (valOf wt fol last e T z):=by simp [fill]
theorem fill_far (wt fol : Nat → Int → Int × Int) (last : Bool) (e : Nat) (T : Nat → Int × Int) : ∀ (zs : List Int),(∀ z ∈ zs,-200 ≤ z ∧ z ≤ 200) → ∀ i,(e + 1) * 401 ≤ i → fill wt fol last e T zs i = T i:=by
 refine snoc_ind ?_ ?_
 ·intro _ i _; rfl
 ·intro zs z ih h i hi
  have hz:=h z (by simp)
  rw [fill_snoc]
  unfold upd ix
  rw [if_neg (by omega)]
  exact ih (fun y hy => h y (by simp [hy])) i hi
/-- The table behind j events from the end on. -/
def Tab (wt fol : Nat → Int → Int × Int) (f : Nat → Int × Int) (n : Nat) : Nat → (Nat → Int × Int)
 | 0 => fun _ => (0,0)
 | j + 1 => fill wt fol (decide (j = 0)) (n - 1 - j) (Tab wt fol f n j) (rngL (f (n - 1 - j)).1 (f (n - 1 - j)).2)

def Bd (b : Int) (p : Int × Int) : Prop:=-b ≤ p.1 ∧ p.1 ≤ b ∧ -b ≤ p.2 ∧ p.2 ≤ b
theorem covers_bd {b : Int} (hb : 1073741824 ≤ b) (f : Int → Int × Int) (h : ∀ z,Bd b (f z)) : ∀ zs,Bd b (covers f zs):=by
 refine snoc_ind ?_ ?_
 ·unfold covers noth Bd; simp; omega
 ·intro zs z ih
  rw [covers_snoc]
  have:=h z
  unfold Bd cov at *
  simp only
  omega
theorem fill_bd {b : Int} (wt fol : Nat → Int → Int × Int) (last : Bool) (e : Nat) (T : Nat → Int × Int) (hT : ∀ i,Bd b (T i)) (hv : ∀ z,Bd b (valOf wt fol last e T z)) : ∀ zs i,Bd b (fill wt fol last e T zs i):=by
 refine snoc_ind (fun i => hT i) ?_
 ·intro zs z ih i
  rw [fill_snoc]
  unfold upd
  split
  ·exact hv z
  ·exact ih i
theorem rest_bd {b : Int} (hb : 1073741824 ≤ b) (fol : Nat → Int → Int × Int) (last : Bool) (e : Nat) (T : Nat → Int × Int) (hT : ∀ i,Bd b (T i)) (z : Int) : Bd b (restOf fol last e T z):=by
 unfold restOf
 split
 ·unfold Bd; simp; omega
 ·exact covers_bd hb _ (fun _ => hT _) _
theorem Tab_bd (wt fol : Nat → Int → Int × Int) (f : Nat → Int × Int) (n : Nat) (hw : ∀ e z,Bd 100000 (wt e z)) : ∀ (j i : Nat),Bd (1073741824 + (j : Int) * 100000) (Tab wt fol f n j i):=by
 intro j
 induction j with
 | zero => intro i; unfold Tab Bd; simp
 | succ j ih =>
  intro i
  unfold Tab
  refine fill_bd _ _ _ _ _ (fun i => ?_) (fun z => ?_) _ _
  ·have:=ih i
   unfold Bd at *
   push_cast
   omega
  ·have h1:=rest_bd (b:=1073741824 + (j : Int) * 100000) (by omega) fol (decide (j = 0)) (n - 1 - j) _ ih z
   have h2:=hw (n - 1 - j) z
   unfold valOf Bd at *
   push_cast
   (try simp only) <;> omega
theorem Bd.mono {b c : Int} {p : Int × Int} (h : Bd b p) (hbc : b ≤ c) : Bd c p:=by unfold Bd at *; omega
theorem fill_Bd (wt fol : Nat → Int → Int × Int) (f : Nat → Int × Int) (n : Nat) (hw : ∀ e z,Bd 100000 (wt e z)) (j : Nat) (hj : j ≤ 14) (last : Bool) (e : Nat) (zs : List Int) (i : Nat) : Bd 1080000000 (fill wt fol last e (Tab wt fol f n j) zs i):=by
 refine Bd.mono (b:=1073741824 + ((j + 1 : Nat) : Int) * 100000) (fill_bd _ _ _ _ _ (fun i => ?_) (fun z => ?_) _ _) (by push_cast; omega)
 ·exact (Tab_bd wt fol f n hw j i).mono (by push_cast; omega)
 ·have h1:=rest_bd (b:=1073741824 + (j : Int) * 100000) (by omega) fol last e _ (Tab_bd wt fol f n hw j) z
  have h2:=hw e z
  unfold valOf Bd at *
  push_cast
  (try simp only) <;> omega
theorem covers_congr {f g : Int → Int × Int} (h : ∀ z,f z = g z) (zs : List Int) : covers f zs = covers g zs:=by rw [show f = g from funext h]
theorem fill_val (wt fol : Nat → Int → Int × Int) (f : Nat → Int × Int) (n j e : Nat) (last : Bool) (zs : List Int) (hz : ∀ z ∈ zs,-200 ≤ z ∧ z ≤ 200) (x : Int) :
  fill wt fol last e (Tab wt fol f n j) (zs ++ [x]) = upd (fill wt fol last e (Tab wt fol f n j) zs) (ix e x) ((wt e x).1 + (restOf fol last e (fill wt fol last e (Tab wt fol f n j) zs) x).1,(wt e x).2 + (restOf fol last e (fill wt fol last e (Tab wt fol f n j) zs) x).2):=by
 rw [fill_snoc]
 have hr : restOf fol last e (fill wt fol last e (Tab wt fol f n j) zs) x = restOf fol last e (Tab wt fol f n j) x:=by
  unfold restOf
  split
  ·rfl
  ·exact covers_congr (fun nx => fill_far wt fol last e _ zs hz _ (by unfold ix; omega)) _
 rw [hr]
 rfl
end Go.Proofs.Ytgbogdckmfencaa

/-! The tables of bridge.weightsBefore, as plain mathematics. -/
namespace Go.Proofs.Ytgbogdckmfencaa
open Go.RowKit
/-- A row is laid out for the zeros that an event may have. -/
def clearR (e : Nat) (T : Nat → Int × Int) (zs : List Int) : Nat → Int × Int:=zs.foldl (fun S z => upd S (ix e z) noth) T
/-- What truths weigh up to one zero is carried on. -/
def onto (e : Nat) (so : Int × Int) (T : Nat → Int × Int) (zs : List Int) : Nat → Int × Int:=zs.foldl (fun S z => upd S (ix e z) (cov (S (ix e z)) so)) T
def soFar (wt : Nat → Int → Int × Int) (e : Nat) (T : Nat → Int × Int) (z : Int) : Int × Int:=((T (ix e z)).1 + (wt e z).1,(T (ix e z)).2 + (wt e z).2)
def passOn (wt fol : Nat → Int → Int × Int) (e : Nat) (T : Nat → Int × Int) (zs : List Int) : Nat → Int × Int :=
 zs.foldl (fun S z => onto (e + 1) (soFar wt e S z) S (rngL (fol e z).1 (fol e z).2)) T
def Tbe (wt fol : Nat → Int → Int × Int) (f : Nat → Int × Int) : Nat → (Nat → Int × Int)
 | 0 => fun _ => (0,0)
 | e + 1 => passOn wt fol e (clearR (e + 1) (Tbe wt fol f e) (rngL (f (e + 1)).1 (f (e + 1)).2)) (rngL (f e).1 (f e).2)
theorem clearR_snoc (e : Nat) (T : Nat → Int × Int) (zs : List Int) (z : Int) : clearR e T (zs ++ [z]) = upd (clearR e T zs) (ix e z) noth:=by simp [clearR]
theorem onto_snoc (e : Nat) (so : Int × Int) (T : Nat → Int × Int) (zs : List Int) (z : Int) : onto e so T (zs ++ [z]) = upd (onto e so T zs) (ix e z) (cov (onto e so T zs (ix e z)) so):=by simp [onto]
theorem passOn_snoc (wt fol : Nat → Int → Int × Int) (e : Nat) (T : Nat → Int × Int) (zs : List Int) (z : Int) :
  passOn wt fol e T (zs ++ [z]) = onto (e + 1) (soFar wt e (passOn wt fol e T zs) z) (passOn wt fol e T zs) (rngL (fol e z).1 (fol e z).2):=by simp [passOn]
/-- The entries of a row, or of those up to it, within bounds. -/
def RowBd (b : Int) (T : Nat → Int × Int) : Prop:=∀ i,Bd b (T i)
theorem clearR_bd {b : Int} (hb : 1073741824 ≤ b) (e : Nat) (T : Nat → Int × Int) (h : RowBd b T) : ∀ zs,RowBd b (clearR e T zs):=by
 refine snoc_ind h fun zs z ih i => ?_
 rw [clearR_snoc]
 unfold upd
 split
 ·unfold Bd noth; simp; omega
 ·exact ih i
theorem onto_bd {b : Int} (e : Nat) (so : Int × Int) (T : Nat → Int × Int) (h : RowBd b T) (hs : Bd b so) : ∀ zs,RowBd b (onto e so T zs):=by
 refine snoc_ind h fun zs z ih i => ?_
 rw [onto_snoc]
 unfold upd
 split
 ·have:=ih (ix e z)
  unfold Bd cov at *
  (try simp only) <;> omega
 ·exact ih i
/-- Entries of the rows up to e within b, of the rows from e + 1 on within c. -/
def TwoBd (e : Nat) (b c : Int) (T : Nat → Int × Int) : Prop:=(∀ i,i < (e + 1) * 401 → Bd b (T i)) ∧ RowBd c T
theorem passOn_two {b : Int} (wt fol : Nat → Int → Int × Int) (e : Nat) (hw : ∀ e z,Bd 100000 (wt e z)) (T : Nat → Int × Int) (h : TwoBd e b (b + 100000) T) : ∀ zs,(∀ z ∈ zs,-200 ≤ z ∧ z ≤ 200) → TwoBd e b (b + 100000) (passOn wt fol e T zs):=by
 refine snoc_ind (fun _ => h) fun zs z ih hz => ?_
 rw [passOn_snoc]
 have h0:=ih fun y hy => hz y (by simp [hy])
 have hzz:=hz z (by simp)
 have h1:=h0.1 (ix e z) (by unfold ix; omega)
 have h2:=hw e z
 have hs : Bd (b + 100000) (soFar wt e (passOn wt fol e T zs) z):=by
  unfold soFar Bd at *
  (try simp only) <;> omega
 refine ⟨fun i hi => ?_,onto_bd _ _ _ h0.2 hs _⟩
 have hfar : ∀ ys : List Int,onto (e + 1) (soFar wt e (passOn wt fol e T zs) z) (passOn wt fol e T zs) ys i = passOn wt fol e T zs i:=by
  refine snoc_ind rfl fun ys y ih => ?_
  rw [onto_snoc]
  unfold upd ix
  rw [if_neg (by omega)]
  exact ih
 rw [hfar]
 exact h0.1 i hi
theorem rngL_mem {lo hi z : Int} (h : z ∈ rngL lo hi) : lo ≤ z ∧ z ≤ hi:=by
 unfold rngL at h
 obtain ⟨i,hi',rfl⟩:=List.mem_map.1 h
 have:=List.mem_range.1 hi'
 omega
theorem Tbe_bd (wt fol : Nat → Int → Int × Int) (f : Nat → Int × Int) (n : Nat) (hw : ∀ e z,Bd 100000 (wt e z)) (hf : ∀ i,i < n → -200 ≤ (f i).1 ∧ (f i).1 ≤ 200 ∧ -200 ≤ (f i).2 ∧ (f i).2 ≤ 200) : ∀ (e : Nat),e < n → RowBd (1073741824 + (e : Int) * 100000) (Tbe wt fol f e):=by
 intro e
 induction e with
 | zero => intro _ i; unfold Tbe Bd; simp
 | succ e ih =>
  intro he
  have h0:=ih (by omega)
  have h1:=clearR_bd (b:=1073741824 + (e : Int) * 100000) (by omega) (e + 1) _ h0 (rngL (f (e + 1)).1 (f (e + 1)).2)
  have h2:=passOn_two (b:=1073741824 + (e : Int) * 100000) wt fol e hw _ ⟨fun i _ => h1 i,fun i => (h1 i).mono (by omega)⟩ (rngL (f e).1 (f e).2) (fun z hz => by have:=rngL_mem hz; have:=hf e (by omega); omega)
  have e1 : (1073741824 + (e : Int) * 100000 + 100000) = 1073741824 + ((e + 1 : Nat) : Int) * 100000:=by push_cast; omega
  rw [← e1]
  exact h2.2
theorem part_Bd (wt fol : Nat → Int → Int × Int) (f : Nat → Int × Int) (n : Nat) (hn : n ≤ 14) (hw : ∀ e z,Bd 100000 (wt e z)) (hf : ∀ i,i < n → -200 ≤ (f i).1 ∧ (f i).1 ≤ 200 ∧ -200 ≤ (f i).2 ∧ (f i).2 ≤ 200) (e : Nat) (he : e + 1 < n) (ys zs : List Int) (hz : ∀ z ∈ zs,-200 ≤ z ∧ z ≤ 200) :
  RowBd 1080000000 (passOn wt fol e (clearR (e + 1) (Tbe wt fol f e) ys) zs):=by
 have h0:=Tbe_bd wt fol f n hw hf e (by omega)
 have h1:=clearR_bd (b:=1073741824 + (e : Int) * 100000) (by omega) (e + 1) _ h0 ys
 have h2:=passOn_two (b:=1073741824 + (e : Int) * 100000) wt fol e hw _ ⟨fun i _ => h1 i,fun i => (h1 i).mono (by omega)⟩ zs hz
 exact fun i => (h2.2 i).mono (by omega)
end Go.Proofs.Ytgbogdckmfencaa
