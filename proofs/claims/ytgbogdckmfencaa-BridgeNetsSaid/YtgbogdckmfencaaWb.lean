/- bridge.weightsBefore. -/
import Derived.Test.YtgbogdckmfencaaTbM
import Derived.Test.YtgbogdckmfencaaWf
set_option linter.unusedSimpArgs false
set_option linter.unusedVariables false
namespace Go.Proofs.Ytgbogdckmfencaa
open Go.RowKit Go.Shelf
attribute [local go_sem] Oper.semAt_some
/-- Between two rounds of weightsBefore's loop: j events are done. -/
def WbInv (x0 x1 x2 : Value) (A : Option Addr) (n c gl gm : Nat) (f : Nat → Int × Int) (wt fol : Nat → Int → Int × Int) (w : World) (b : Nat) (a : Act) (W : World) : Prop :=
 ∃ (j : Nat) (ds : List Deferred) (u8 u22 u23 u24 u25 u26 u27 u28 u38 u39 u40 u41 u78 : Value),j + 1 ≤ n ∧ a = { tmps:=#[.agg #[x0,x1,x2,.slice A n c],.agg (zarr f),.func (.func 97) #[] #[.pointer (some ⟨gl,0,none⟩),.pointer (some ⟨gm,0,none⟩)],.pointer (some ⟨b,0,none⟩),.pointer (some ⟨b + 1,0,none⟩),.pointer (some ⟨b + 1 + 1,0,none⟩),.slice none 0 0,.pointer (some ⟨b + 1 + 1 + 1 + 1,0,none⟩),u8,undef,undef,undef,undef,.pointer (some ⟨b,3,none⟩),.slice A n c,.int .i64 n,.slice (some ⟨b + 1 + 1 + 1,0,none⟩) n n,.pointer (some ⟨b,3,none⟩),.slice A n c,.int .i64 n,.int .i64 ((n : Int) - 1),.int .i64 j,u22,u23,u24,u25,u26,u27,u28,undef,undef,undef,undef,undef,undef,undef,undef,undef,u38,u39,u40,u41,undef,undef,undef,undef,undef,undef,undef,undef,undef,undef,undef,undef,undef,undef,undef,undef,undef,undef,undef,undef,undef,undef,undef,undef,undef,undef,undef,undef,undef,undef,undef,undef,undef,undef,undef,undef,u78,undef],defers:=ds } ∧ Marks b W ds ∧ b + 1 + 1 + 1 + 1 < W.heap.size ∧ Bx W (b + 1 + 1 + 1) 135 (parr (n * 401) (Tbe wt fol f j)) ∧ Bx W b 26 #[x0,x1,x2,.slice A n c] ∧ Bx W (b + 1) 91 (zarr f) ∧ Bx W (b + 1 + 1) 54 #[.func (.func 97) #[] #[.pointer (some ⟨gl,0,none⟩),.pointer (some ⟨gm,0,none⟩)]] ∧ Bx W (b + 1 + 1 + 1 + 1) 128 #[.slice (some ⟨b + 1 + 1 + 1,0,none⟩) n n] ∧ Below b w W
def wbLeft (n : Nat) (a : Act) (_ : World) : Nat:=match a.tmps[21]? with
 | some (Value.int _ i) => ((n : Int) - i).toNat
 | _ => 0
set_option maxRecDepth 100000 in
set_option maxHeartbeats 8000000 in
theorem weightsBefore_any (x0 x1 x2 : Value) (A : Option Addr) (n c gl gm : Nat) (f : Nat → Int × Int) (wt fol : Nat → Int → Int × Int) (w : World) (hn : 1 ≤ n) (hn2 : n ≤ 14)
  (hf : ∀ i,i < n → -200 ≤ (f i).1 ∧ (f i).1 ≤ 200 ∧ -200 ≤ (f i).2 ∧ (f i).2 ≤ 200) (hwt : ∀ e z,Bd 100000 (wt e z))
  (hfol : ∀ e z,-1000 ≤ (fol e z).1 ∧ (fol e z).1 ≤ 1000 ∧ -1000 ≤ (fol e z).2 ∧ (fol e z).2 ≤ 1000 ∧ ∀ x,(fol e z).1 ≤ x → x ≤ (fol e z).2 → -200 ≤ x ∧ x ≤ 200)
  (h104 : ∀ W,Below w.heap.size w W → ∀ (e : Nat) (z : Int),e + 1 < n → -200 ≤ z → z ≤ 200 → Calls Try.prog 104 #[.agg #[x0,x1,x2,.slice A n c],.agg (zarr f),.int .i64 e,.int .i64 z] W (Iter W (fol e z).1 (fol e z).2))
  (h97 : ∀ W,Below w.heap.size w W → ∀ (e : Nat) (z : Int),e < n → -200 ≤ z → z ≤ 200 → Calls Try.prog 97 #[.int .i64 e,.int .i64 z,.pointer (some ⟨gl,0,none⟩),.pointer (some ⟨gm,0,none⟩)] W fun r W' => r = .returned (.agg #[.int .i64 (wt e z).1,.int .i64 (wt e z).2]) ∧ Below W.heap.size W W') :
  Calls Try.prog 103 #[.agg #[x0,x1,x2,.slice A n c],.agg (zarr f),.func (.func 97) #[] #[.pointer (some ⟨gl,0,none⟩),.pointer (some ⟨gm,0,none⟩)]] w fun e W' => (∃ tb,e = .returned (.slice (some ⟨tb,0,none⟩) n n) ∧ w.heap.size ≤ tb ∧ Bx W' tb 135 (parr (n * 401) (Tbe wt fol f (n - 1)))) ∧ Below w.heap.size w W':=by
 have H104:=Lib.hid h104
 have H97:=Lib.hid h97
 have HF:=Lib.hid hf
 have HFOL:=Lib.hid hfol
 have HWT:=Lib.hid hwt
 clear h104 h97 hf hfol hwt
 have hmk:=make_tal n hn2
 have hw1 : IntKind.i64.wrap ((n : Int) - 1) = (n : Int) - 1:=IntWalk.i64_in _ (by omega)
 refine (callsIn_wide (n:=9)).1 ?_
 refine callsIn_of_wp_marks Try.func103 rfl trivial ?_ rfl
 refine wpIn_wide.2 ?_
 simp only [Try.ntmps103,List.size_toArray,List.length_cons,List.length_nil,Nat.reduceAdd,Nat.reduceSub,Array.replicate_succ,Array.replicate_zero,List.push_toArray,List.append_toArray,List.nil_append,List.cons_append]
 go_wp2_with fail
 refine wp_loop (WbInv x0 x1 x2 A n c gl gm f wt fol w w.heap.size) (wbLeft n) ?h0 ?round
 case h0 =>
  refine ⟨0,[],undef,undef,undef,undef,undef,undef,undef,undef,undef,undef,undef,undef,undef,by omega,rfl,Marks.nil _ _,by simp <;> omega,?_,?_,?_,?_,?_,?_⟩
  all_goals repeat (first | exact Below.refl _ _ | (refine Bx.at _ _ _ ?_; simp; done) | refine Bx.alloc ?_ _ | refine Below.alloc ?_ (by simp; try omega) _)
 case round =>
  clear hmk
  rintro a W ⟨j,ds,u8,u22,u23,u24,u25,u26,u27,u28,u38,u39,u40,u41,u78,hj,rfl,hM,hbW,BT,B3,B4,B5,B7,hB⟩
  obtain ⟨b,hbe⟩ : ∃ b,w.heap.size = b:=⟨_,rfl⟩
  rw [hbe] at hM hbW B3 B4 B5 BT B7 hB ⊢
  have HBE:=Lib.hid hbe
  clear hbe
  by_cases hjn : j + 1 < n
  ·have hj1 : (j : Int) < (n : Int) - 1:=by omega
   have hj2 : (j : Int) < (n : Int):=by omega
   have he0 : (0 : Int) ≤ (j : Int):=by omega
   have he1 : (j : Int) < 14:=by omega
   have hwe : IntKind.i64.wrap ((j : Int) + 1) = (j : Int) + 1:=IntWalk.i64_in _ (by omega)
   have he2 : ((j : Int) + 1).toNat = j + 1:=by omega
   have he3 : 0 ≤ (j : Int) + 1:=by omega
   have he4 : (j : Int) + 1 < (n : Int):=by omega
   have he5 : (j : Int) + 1 < 14:=by omega
   have hf1:=HF.out (j + 1) hjn
   have c0:=((B4.alloc (.cells #[.int .i64 j] 3)).cell ((j + 1) * 2)).trans (zarr_fst f (by omega))
   have c1:=((B4.alloc (.cells #[.int .i64 j] 3)).cell ((j + 1) * 2 + 1)).trans (zarr_snd f (by omega))
   obtain ⟨k0,hk0⟩ : ∃ k0,(f (j + 1)).1 = k0:=⟨_,rfl⟩
   obtain ⟨k1,hk1⟩ : ∃ k1,(f (j + 1)).2 = k1:=⟨_,rfl⟩
   rw [hk0] at c0 hf1
   rw [hk1] at c1 hf1
   have HK0:=Lib.hid hk0
   have HK1:=Lib.hid hk1
   clear hk0 hk1
   obtain ⟨f1,f2,f3,f4⟩:=hf1
   go_wp2_with (go_at_call 94; refine (numbers_any _ _ _).mono ?_; rintro e3 w3 ⟨rfl,rfl⟩)
   have bx0:=Bx.at (W.alloc (.cells #[.int .i64 j] 3)) 23 #[.int .i64 k0,.int .i64 k1] (n:=W.heap.size + 1) (by simp)
   have C9:=(Bx.new W 3 #[.int .i64 (j : Int)]).alloc (.cells #[.int .i64 k0,.int .i64 k1] 23)
   have C3:=(B3.alloc (.cells #[.int .i64 j] 3)).alloc (.cells #[.int .i64 k0,.int .i64 k1] 23)
   have C4:=(B4.alloc (.cells #[.int .i64 j] 3)).alloc (.cells #[.int .i64 k0,.int .i64 k1] 23)
   have C5:=(B5.alloc (.cells #[.int .i64 j] 3)).alloc (.cells #[.int .i64 k0,.int .i64 k1] 23)
   have CT:=(BT.alloc (.cells #[.int .i64 j] 3)).alloc (.cells #[.int .i64 k0,.int .i64 k1] 23)
   have C7:=(B7.alloc (.cells #[.int .i64 j] 3)).alloc (.cells #[.int .i64 k0,.int .i64 k1] 23)
   have CM : Marks b ((W.alloc (.cells #[.int .i64 j] 3)).alloc (.cells #[.int .i64 k0,.int .i64 k1] 23)) ds:=hM.call (((Below.refl _ _).alloc (Nat.le_refl _) _).alloc (by simp) _)
   have hMlt:=hM.lt
   have CB:=(hB.alloc (by omega) (.cells #[.int .i64 j] 3)).alloc (by simp; omega) (.cells #[.int .i64 k0,.int .i64 k1] 23)
   obtain ⟨g9,hg9⟩ : ∃ g9,W.heap.size = g9:=⟨_,rfl⟩
   obtain ⟨W0,hW0⟩ : ∃ W0,(W.alloc (.cells #[.int .i64 j] 3)).alloc (.cells #[.int .i64 k0,.int .i64 k1] 23) = W0:=⟨_,rfl⟩
   have d5 : W0.heap.size = g9 + 2:=by rw [← hW0,← hg9]; simp
   rw [hW0] at bx0 C3 C4 C5 CT C7 C9 CM CB ⊢
   rw [hg9] at bx0 C9 hMlt hbW ⊢
   clear B3 B4 B5 BT B7 hM hB c0 c1 hW0
   refine (wpIn_wide (n:=9)).1 ?_
   refine wpIn_rangeFunc_ownH (F:=Fence.wide) rfl (by omega) (gf:=105) (lb:=#[.pointer (some ⟨g9 + 1,0,none⟩)]) rfl trivial (enters_of Try.func105 (by kernel_rfl) rfl)
    (numbers1_stops Fence.wide (9 - 1) trivial rfl (by omega) (g9 + 1) k0 k1 (by omega) (by omega) (by omega) (by omega) W0 bx0) (fun h k => sameBox_t h k) (sameBox_b bx0.lt) (Below.refl _ _) (fun _ => rfl)
    (fun pre V => ((((((((Bx V (b + 1 + 1 + 1) 135 (parr (n * 401) (clearR (j + 1) (Tbe wt fol f j) (pre.map (·.1)))) ∧ Bx V b 26 #[x0,x1,x2,.slice A n c]) ∧ Bx V (b + 1) 91 (zarr f)) ∧ Bx V (b + 1 + 1) 54 #[.func (.func 97) #[] #[.pointer (some ⟨gl,0,none⟩),.pointer (some ⟨gm,0,none⟩)]]) ∧ Bx V (b + 1 + 1 + 1 + 1) 128 #[.slice (some ⟨b + 1 + 1 + 1,0,none⟩) n n]) ∧ Bx V g9 3 #[.int .i64 j]) ∧ Bx V (g9 + 1) 23 #[.int .i64 k0,.int .i64 k1]) ∧ Marks b V ds) ∧ Below b w V))
    (fun _ _ _ => False)
    (OwnFrom.and (OwnFrom.and (OwnFrom.and (OwnFrom.and (OwnFrom.and (OwnFrom.and (OwnFrom.and (OwnFrom.and (Own.from (bx_own _ _ _) _) (Own.from (bx_own _ _ _) _)) (Own.from (bx_own _ _ _) _)) (Own.from (bx_own _ _ _) _)) (Own.from (bx_own _ _ _) _)) (Own.from (bx_own _ _ _) _)) (Own.from (bx_own _ _ _) _)) (marks_ownFrom (fun d hd D he => by have:=hMlt d hd D he; omega))) (ownFrom_below (by rw [← HBE.out]; exact Nat.le_refl _) (by omega)))
    (fun _ _ _ _ _ hs _ _ => hs)
    ⟨⟨⟨⟨⟨⟨⟨⟨CT,C3⟩,C4⟩,C5⟩,C7⟩,C9⟩,bx0⟩,CM⟩,CB⟩
    (fun x a' _ => a' = { tmps:=#[.agg #[x0,x1,x2,.slice A n c],.agg (zarr f),.func (.func 97) #[] #[.pointer (some ⟨gl,0,none⟩),.pointer (some ⟨gm,0,none⟩)],.pointer (some ⟨b,0,none⟩),.pointer (some ⟨b + 1,0,none⟩),.pointer (some ⟨b + 1 + 1,0,none⟩),.slice none 0 0,.pointer (some ⟨b + 1 + 1 + 1 + 1,0,none⟩),.pointer (some ⟨g9,0,none⟩),.int .i64 x.1,undef,undef,undef,.pointer (some ⟨b,3,none⟩),.slice A n c,.int .i64 n,.slice (some ⟨b + 1 + 1 + 1,0,none⟩) n n,.pointer (some ⟨b,3,none⟩),.slice A n c,.int .i64 n,.int .i64 ((n : Int) - 1),.int .i64 j,.bool true,.int .i64 j,.int .i64 j,.int .i64 ((j : Int) + 1),.pointer (some ⟨b + 1,(j + 1) * 2,none⟩),.agg #[.int .i64 k0,.int .i64 k1],.func (.func 105) #[] #[.pointer (some ⟨g9 + 1,0,none⟩)],.int .i64 x.1,undef,undef,undef,undef,undef,undef,undef,undef,u38,u39,u40,u41,undef,undef,undef,undef,undef,undef,undef,undef,undef,undef,undef,undef,undef,undef,undef,undef,undef,undef,undef,undef,undef,undef,undef,undef,undef,undef,undef,undef,undef,undef,undef,undef,undef,undef,undef,undef,u78,undef],defers:=[] })
    (fun _ _ _ _ _ _ hs _ _ => hs)
    ?assign ?body ?done ?stop
   case assign =>
    rintro l pre x V K hi hK
    gi_wp2
    exact hK _ _ (KeepsFrom.refl _ _) rfl hi rfl
   case body =>
    rintro l pre x a' V hl ⟨r,hr⟩ ⟨⟨⟨⟨⟨⟨⟨⟨DT,D3⟩,D4⟩,D5⟩,D7⟩,D9⟩,DG⟩,DM⟩,DB⟩ rfl hlt
    have hx1:=x.2.1
    have hx2:=x.2.2
    obtain ⟨xx,hxx⟩ : ∃ xx,x.1 = xx:=⟨_,rfl⟩
    rw [hxx] at hx1 hx2 ⊢
    have HX:=Lib.hid hxx
    clear hxx hr
    obtain ⟨T,hT⟩ : ∃ T,clearR (j + 1) (Tbe wt fol f j) (pre.map (·.1)) = T:=⟨_,rfl⟩
    rw [hT] at DT
    have HT:=Lib.hid hT
    clear hT
    have hbV0 : b ≤ V.heap.size:=by have:=D3.lt; omega
    have hixx : ix (j + 1) xx < n * 401:=ix_lt hjn (by omega) (by omega)
    obtain ⟨s0,sf,sz⟩:=D9.one
    obtain ⟨z0,zf,zz⟩:=D7.one
    refine wpIn_block ?_
    refine AnyG.startIn (fun w' : World => Below V.heap.size V w') (fun i => i != 8) (by kernel_rfl) (by kernel_rfl) (fun _ _ h => h) ?_
    have hS : (fun w' : World => Below V.heap.size V w') (World.drew _):=(Below.refl _ _).drew
    refine AnyG.take (i:=0) (v:=?_) rfl (by kernel_rfl) (fun _ _ _ h => h) rfl ?_ hS ?_
    rotate_left
    ·(intro w' hSw; (try dsimp only at hSw); have z0:=cellC hSw z0; go_simp; try with_reducible rfl)
    try simp only [Act.put,Sp4,Sp5,Sp6]
    refine AnyG.take (i:=1) (v:=?_) rfl (by kernel_rfl) (fun _ _ _ h => h) rfl ?_ hS ?_
    rotate_left
    ·(intro w' hSw; (try dsimp only at hSw); have s0:=cellC hSw s0; go_simp; try with_reducible rfl)
    try simp only [Act.put,Sp4,Sp5,Sp6]
    refine AnyG.take (i:=2) (v:=?_) rfl (by kernel_rfl) (fun _ _ _ h => h) rfl ?_ hS ?_
    rotate_left
    ·(intro w' _; go_simp; try with_reducible rfl)
    try simp only [Act.put,Sp4,Sp5,Sp6]
    refine AnyG.take (i:=3) (v:=?_) rfl (by kernel_rfl) (fun _ _ _ h => h) rfl ?_ hS ?_
    rotate_left
    ·(intro w' _; go_simp; try with_reducible rfl)
    try simp only [Act.put,Sp4,Sp5,Sp6]
    refine RegRel.AnyG.rel [0,1,2,3] [8] [[],[],[],[],[],[4],[],[4,5,6],[4,5,6,7]] [(34,4),(35,5),(36,6),(37,7)] [(4,fun vs _ => vs 4 = .int .i64 (xx + 200)),(5,fun vs _ => vs 5 = .agg #[.int .i64 1073741824,.int .i64 (-1073741824)]),(6,fun vs _ => vs 6 = .pointer (some ⟨b + 1 + 1 + 1,(j + 1) * 802,none⟩)),(7,fun vs _ => vs 7 = .pointer (some ⟨b + 1 + 1 + 1,(j + 1) * 802 + (xx + 200).toNat * 2,none⟩))]
     (by kernel_rfl) (by kernel_rfl) (by kernel_rfl) (by decide) (by decide) (fun _ h => Below.trans ((Below.refl V.heap.size V).drew) h) ?hst ?hcg ?hstep ?hfin
    case hst => exact ⟨fun _ _ _ h _ => h,fun _ _ _ h _ => h,fun _ _ _ h _ => h,fun _ _ _ h _ => h,trivial⟩
    case hcg => exact ⟨fun _ _ _ he h => (he 4 (by simp)).trans h,fun _ _ _ he h => (he 5 (by simp)).trans h,fun _ _ _ he h => (he 6 (by simp)).trans h,fun _ _ _ he h => (he 7 (by simp)).trans h,trivial⟩
    case hstep =>
     refine ⟨?_,?_,?_,?_,trivial⟩
     ·rintro vs v1 - hv
      refine ⟨_,_,rfl,rfl,?_⟩
      clear hS
      simp only [RegRel.fillT,List.foldl_cons,List.foldl_nil,Sp4,Sp5,Sp6]
      go_simp
      refine (place_any xx _ (by omega) (by omega)).mono ?_
      rintro rr v2 ⟨rfl,rfl⟩
      first | exact ⟨rfl,Below.refl _ _,rfl⟩ | exact ⟨rfl,Below.refl _ _⟩ | exact Below.refl _ _ | trace_state
     ·rintro vs v1 ⟨h4,-⟩ hv
      refine ⟨_,_,rfl,rfl,?_⟩
      clear hS
      dsimp only at h4
      simp only [RegRel.fillT,List.foldl_cons,List.foldl_nil,Sp4,Sp5,Sp6]
      clear h4
      go_simp
      refine (nothing_any _).mono ?_
      rintro rr v2 ⟨rfl,hb2⟩
      first | exact ⟨rfl,hb2,rfl⟩ | exact ⟨rfl,hb2⟩ | exact hb2 | trace_state
     ·rintro vs v1 - hv
      refine ⟨_,_,rfl,rfl,?_⟩
      clear hS
      simp only [RegRel.fillT,List.foldl_cons,List.foldl_nil,Sp4,Sp5,Sp6]
      go_simp
      first | exact ⟨rfl,Below.refl _ _,rfl⟩ | exact ⟨rfl,Below.refl _ _⟩ | exact Below.refl _ _ | trace_state
     ·rintro vs v1 ⟨h4,h5,h6,-⟩ hv
      refine ⟨_,_,rfl,rfl,?_⟩
      clear hS
      dsimp only at h4 h5 h6
      simp only [RegRel.fillT,List.foldl_cons,List.foldl_nil,Sp4,Sp5,Sp6]
      simp only [h4,h6]
      clear h4 h5 h6
      have q1 : 0 ≤ xx + 200:=by omega
      have q2 : xx + 200 < 401:=by omega
      go_simp
      first | exact ⟨rfl,Below.refl _ _,rfl⟩ | exact ⟨rfl,Below.refl _ _⟩ | exact Below.refl _ _ | trace_state
    case hfin =>
     rintro vs v1 ⟨h4,h5,h6,h7,-⟩ hv
     clear hS
     dsimp only at h4 h5 h6 h7
     simp only [List.filter_cons,List.contains_cons,List.contains_nil,Nat.reduceBEq,Bool.or_false,Bool.not_false,if_true,List.filter_nil]
     simp only [RegRel.fillT,List.foldl_cons,List.foldl_nil,Sp4,Sp5,Sp6]
     simp only [h4,h5,h6,h7]
     clear h4 h5 h6 h7
     have hvW : Below V.heap.size V v1:=((Below.refl V.heap.size V).drew).trans hv
     have hoff : (ix (j + 1) xx) * 2 = (j + 1) * 802 + (xx + 200).toNat * 2:=by unfold ix; omega
     have DTv:=DT.drew.call hv
     have p0:=(DTv.cell ((j + 1) * 802 + (xx + 200).toNat * 2)).trans (parr_fst (n * 401) T hixx hoff.symm)
     have p1:=(DTv.cell ((j + 1) * 802 + (xx + 200).toNat * 2 + 1)).trans (parr_snd (n * 401) T hixx (by omega))
     have pf:=DTv.free
     refine RegRel.wpOps_go rfl rfl ?_
     go_simp
     refine RegRel.wpOps_end ?_
     have kf : ∀ B,KeepsFrom B V ((v1.setCell ⟨b + 1 + 1 + 1,(j + 1) * 802 + (xx + 200).toNat * 2,none⟩ (.int .i64 1073741824)).setCell ⟨b + 1 + 1 + 1,(j + 1) * 802 + (xx + 200).toNat * 2 + 1,none⟩ (.int .i64 (-1073741824))):=fun B => (keepsFrom_below hvW).trans (((KeepsOthers.setCell _ _ _).from _).trans ((KeepsOthers.setCell _ _ _).from _))
     refine ⟨kf _,?_,⟨⟨⟨⟨⟨⟨⟨⟨?_,?_⟩,?_⟩,?_⟩,?_⟩,?_⟩,?_⟩,?_⟩,?_⟩⟩
     ·exact (Below.heap_setCell _ _ _ _ (by simp <;> omega)).trans ((Below.heap_setCell _ _ _ _ (by simp <;> omega)).trans (hvW.block _ DG.lt))
     ·show Bx _ _ 135 (parr (n * 401) (clearR (j + 1) (Tbe wt fol f j) ((pre ++ [x]).map (·.1))))
      rw [List.map_append,List.map_cons,List.map_nil,HX.out,clearR_snoc,HT.out]
      have hs:=(DTv.set_ ((j + 1) * 802 + (xx + 200).toNat * 2) (.int .i64 1073741824)).set_ ((j + 1) * 802 + (xx + 200).toNat * 2 + 1) (.int .i64 (-1073741824))
      rw [parr_set (n * 401) T hixx hoff.symm] at hs
      exact hs
     ·exact ((D3.drew.call hv).far (by simp <;> omega) _).far (by simp <;> omega) _
     ·exact ((D4.drew.call hv).far (by simp <;> omega) _).far (by simp <;> omega) _
     ·exact ((D5.drew.call hv).far (by simp <;> omega) _).far (by simp <;> omega) _
     ·exact ((D7.drew.call hv).far (by simp <;> omega) _).far (by simp <;> omega) _
     ·exact ((D9.drew.call hv).far (by simp <;> omega) _).far (by simp <;> omega) _
     ·exact ((DG.drew.call hv).far (by simp <;> omega) _).far (by simp <;> omega) _
     ·exact DM.kept fun k o _ hk ho => (kf 0).same k o (Nat.zero_le _) hk ho
     ·exact ((DB.trans (hvW.mono hbV0)).setCell (p:=⟨b + 1 + 1 + 1,(j + 1) * 802 + (xx + 200).toNat * 2,none⟩) (by simp <;> omega) _).setCell (p:=⟨b + 1 + 1 + 1,(j + 1) * 802 + (xx + 200).toNat * 2 + 1,none⟩) (by simp <;> omega) _
   case done =>
    rintro D ys V hD hys ⟨⟨⟨⟨⟨⟨⟨⟨DT,D3⟩,D4⟩,D5⟩,D7⟩,D9⟩,DG⟩,DM⟩,DB⟩ hKD
    rw [hys] at DT
    have DM':=DM.more (D:=D) (by omega) hKD (fun d hd D' he => by have:=hMlt d hd D' he; omega)
    have hDV:=(Array.getElem?_eq_some_iff.1 hKD).1
    obtain ⟨ds2,hds2⟩ : ∃ ds2,({ target:=.collected D,args:=#[] } : Deferred) :: ds = ds2:=⟨_,rfl⟩
    rw [hds2] at DM' ⊢
    clear hds2 DM hKD hys
    obtain ⟨T1,hT1⟩ : ∃ T1,clearR (j + 1) (Tbe wt fol f j) (rngL k0 k1) = T1:=⟨_,rfl⟩
    rw [hT1] at DT
    have HT1:=Lib.hid hT1
    clear hT1
    have hfj:=HF.out j (by omega)
    have c0:=(D4.cell (j * 2)).trans (zarr_fst f (by omega))
    have c1:=(D4.cell (j * 2 + 1)).trans (zarr_snd f (by omega))
    obtain ⟨m0,hm0⟩ : ∃ m0,(f j).1 = m0:=⟨_,rfl⟩
    obtain ⟨m1,hm1⟩ : ∃ m1,(f j).2 = m1:=⟨_,rfl⟩
    rw [hm0] at c0 hfj
    rw [hm1] at c1 hfj
    have HM0:=Lib.hid hm0
    have HM1:=Lib.hid hm1
    clear hm0 hm1
    obtain ⟨e1,e2,e3,e4⟩:=hfj
    obtain ⟨s0,sf,sz⟩:=D9.one
    go_wp2_with (go_at_call 94; refine (numbers_any _ _ _).mono ?_; rintro e5 w5 ⟨rfl,rfl⟩)
    have CX:=Bx.new V 23 #[.int .i64 m0,.int .i64 m1]
    have C3:=D3.alloc (.cells #[.int .i64 m0,.int .i64 m1] 23)
    have C4:=D4.alloc (.cells #[.int .i64 m0,.int .i64 m1] 23)
    have C5:=D5.alloc (.cells #[.int .i64 m0,.int .i64 m1] 23)
    have CT:=DT.alloc (.cells #[.int .i64 m0,.int .i64 m1] 23)
    have C7:=D7.alloc (.cells #[.int .i64 m0,.int .i64 m1] 23)
    have C9:=D9.alloc (.cells #[.int .i64 m0,.int .i64 m1] 23)
    have hbV:=D3.lt
    have hTV:=DT.lt
    have h7V:=D7.lt
    have h9V:=D9.lt
    have CM : Marks b (V.alloc (.cells #[.int .i64 m0,.int .i64 m1] 23)) ds2:=DM'.call ((Below.refl _ _).alloc (Nat.le_refl _) _)
    have hMlt2:=DM'.lt
    have CB:=DB.alloc (by omega) (.cells #[.int .i64 m0,.int .i64 m1] 23)
    obtain ⟨g2,hg2⟩ : ∃ g2,V.heap.size = g2:=⟨_,rfl⟩
    obtain ⟨V0,hV0⟩ : ∃ V0,V.alloc (.cells #[.int .i64 m0,.int .i64 m1] 23) = V0:=⟨_,rfl⟩
    have v5 : V0.heap.size = g2 + 1:=by rw [← hV0,← hg2]; simp
    rw [hV0] at CX C3 C4 C5 CT C7 C9 CM CB ⊢
    rw [hg2] at CX hMlt2 hDV hbV hTV h7V h9V ⊢
    clear D3 D4 D5 DT D7 D9 DG DM' DB c0 c1 s0 sf sz hV0 hg2 bx0 d5
    refine (wpIn_wide (n:=9)).1 ?_
    refine wpIn_rangeFunc_ownH (F:=Fence.wide) rfl (by omega) (gf:=105) (lb:=#[.pointer (some ⟨g2,0,none⟩)]) rfl trivial (enters_of Try.func105 (by kernel_rfl) rfl)
     (numbers1_stops Fence.wide (9 - 1) trivial rfl (by omega) g2 m0 m1 (by omega) (by omega) (by omega) (by omega) V0 CX) (fun h k => sameBox_t h k) (sameBox_b CX.lt) (Below.refl _ _) (fun _ => rfl)
     (fun pre V => ((((((((Bx V (b + 1 + 1 + 1) 135 (parr (n * 401) (passOn wt fol j T1 (pre.map (·.1)))) ∧ Bx V b 26 #[x0,x1,x2,.slice A n c]) ∧ Bx V (b + 1) 91 (zarr f)) ∧ Bx V (b + 1 + 1) 54 #[.func (.func 97) #[] #[.pointer (some ⟨gl,0,none⟩),.pointer (some ⟨gm,0,none⟩)]]) ∧ Bx V (b + 1 + 1 + 1 + 1) 128 #[.slice (some ⟨b + 1 + 1 + 1,0,none⟩) n n]) ∧ Bx V g9 3 #[.int .i64 j]) ∧ Bx V g2 23 #[.int .i64 m0,.int .i64 m1]) ∧ Marks b V ds2) ∧ Below b w V))
     (fun _ _ _ => False)
     (OwnFrom.and (OwnFrom.and (OwnFrom.and (OwnFrom.and (OwnFrom.and (OwnFrom.and (OwnFrom.and (OwnFrom.and (Own.from (bx_own _ _ _) _) (Own.from (bx_own _ _ _) _)) (Own.from (bx_own _ _ _) _)) (Own.from (bx_own _ _ _) _)) (Own.from (bx_own _ _ _) _)) (Own.from (bx_own _ _ _) _)) (Own.from (bx_own _ _ _) _)) (marks_ownFrom (fun d hd D he => by have:=hMlt2 d hd D he; omega))) (ownFrom_below (by rw [← HBE.out]; exact Nat.le_refl _) (by omega)))
     (fun _ _ _ _ _ hs _ _ => hs)
     ⟨⟨⟨⟨⟨⟨⟨⟨CT,C3⟩,C4⟩,C5⟩,C7⟩,C9⟩,CX⟩,CM⟩,CB⟩
     (fun x a' _ => a' = { tmps:=#[.agg #[x0,x1,x2,.slice A n c],.agg (zarr f),.func (.func 97) #[] #[.pointer (some ⟨gl,0,none⟩),.pointer (some ⟨gm,0,none⟩)],.pointer (some ⟨b,0,none⟩),.pointer (some ⟨b + 1,0,none⟩),.pointer (some ⟨b + 1 + 1,0,none⟩),.slice none 0 0,.pointer (some ⟨b + 1 + 1 + 1 + 1,0,none⟩),.pointer (some ⟨g9,0,none⟩),undef,.int .i64 x.1,undef,undef,.pointer (some ⟨b,3,none⟩),.slice A n c,.int .i64 n,.slice (some ⟨b + 1 + 1 + 1,0,none⟩) n n,.pointer (some ⟨b,3,none⟩),.slice A n c,.int .i64 n,.int .i64 ((n : Int) - 1),.int .i64 j,.bool true,.int .i64 j,.int .i64 j,.int .i64 ((j : Int) + 1),.pointer (some ⟨b + 1,(j + 1) * 2,none⟩),.agg #[.int .i64 k0,.int .i64 k1],.func (.func 105) #[] #[.pointer (some ⟨g9 + 1,0,none⟩)],undef,undef,undef,undef,undef,undef,undef,undef,undef,.int .i64 j,.pointer (some ⟨b + 1,j * 2,none⟩),.agg #[.int .i64 m0,.int .i64 m1],.func (.func 105) #[] #[.pointer (some ⟨g2,0,none⟩)],.int .i64 x.1,undef,undef,undef,undef,undef,undef,undef,undef,undef,undef,undef,undef,undef,undef,undef,undef,undef,undef,undef,undef,undef,undef,undef,undef,undef,undef,undef,undef,undef,undef,undef,undef,undef,undef,undef,u78,undef],defers:=[] })
     (fun _ _ _ _ _ _ hs _ _ => hs)
     ?assign2 ?body2 ?done2 ?stop2
    case assign2 =>
     rintro l pre x V K hi hK
     gi_wp2
     exact hK _ _ (KeepsFrom.refl _ _) rfl hi rfl
    case body2 =>
     rintro l pre x a' V hl ⟨r,hr⟩ ⟨⟨⟨⟨⟨⟨⟨⟨DT,D3⟩,D4⟩,D5⟩,D7⟩,D9⟩,DG⟩,DM⟩,DB⟩ rfl hlt
     have hx1:=x.2.1
     have hx2:=x.2.2
     obtain ⟨xx,hxx⟩ : ∃ xx,x.1 = xx:=⟨_,rfl⟩
     rw [hxx] at hx1 hx2 ⊢
     have HX:=Lib.hid hxx
     clear hxx
     have hpre : ∀ z ∈ pre.map (·.1),-200 ≤ z ∧ z ≤ 200:=by
      intro z hz
      obtain ⟨q,_,rfl⟩:=List.mem_map.1 hz
      have:=q.2
      omega
     have hTbd:=part_Bd wt fol f n hn2 HWT.out HF.out j hjn (rngL k0 k1) (pre.map (·.1)) hpre
     rw [HT1.out] at hTbd
     clear hpre
     obtain ⟨T,hT⟩ : ∃ T,passOn wt fol j T1 (pre.map (·.1)) = T:=⟨_,rfl⟩
     rw [hT] at DT hTbd
     have HT:=Lib.hid hT
     clear hT
     have hlV:=(Array.getElem?_eq_some_iff.1 hr).1
     have HR:=Lib.hid hr
     clear hr
     have hbV0 : b ≤ V.heap.size:=by have:=D3.lt; omega
     have hixx : ix j xx < n * 401:=ix_lt (by omega) (by omega) (by omega)
     obtain ⟨tb1,tb2,tb3,tb4⟩:=hTbd (ix j xx)
     clear hTbd
     obtain ⟨wb1,wb2,wb3,wb4⟩:=HWT.out j xx
     obtain ⟨s0,sf,sz⟩:=D9.one
     obtain ⟨z0,zf,zz⟩:=D7.one
     obtain ⟨q0,qf,qz⟩:=D5.one
     have hoff : (ix j xx) * 2 = j * 802 + (xx + 200).toNat * 2:=by unfold ix; omega
     have p0:=(DT.cell (j * 802 + (xx + 200).toNat * 2)).trans (parr_fst (n * 401) T hixx hoff.symm)
     have p1:=(DT.cell (j * 802 + (xx + 200).toNat * 2 + 1)).trans (parr_snd (n * 401) T hixx (by omega))
     refine wpIn_block ?_
     gi_wp2_with fail
     refine AnyG.startIn (fun w' : World => Below V.heap.size V w') (fun i => i != 13) (by kernel_rfl) (by kernel_rfl) (fun _ _ h => h) ?_
     have hS : (fun w' : World => Below V.heap.size V w') (World.drew _):=(Below.refl _ _).drew
     refine AnyG.take (i:=0) (v:=?_) rfl (by kernel_rfl) (fun _ _ _ h => h) rfl ?_ hS ?_
     rotate_left
     ·(intro w' hSw; (try dsimp only at hSw); have z0:=cellC hSw z0; go_simp; try with_reducible rfl)
     try simp only [Act.put,Sp4,Sp5,Sp6]
     refine AnyG.take (i:=1) (v:=?_) rfl (by kernel_rfl) (fun _ _ _ h => h) rfl ?_ hS ?_
     rotate_left
     ·(intro w' hSw; (try dsimp only at hSw); have s0:=cellC hSw s0; go_simp; try with_reducible rfl)
     try simp only [Act.put,Sp4,Sp5,Sp6]
     refine AnyG.take (i:=2) (v:=?_) rfl (by kernel_rfl) (fun _ _ _ h => h) rfl ?_ hS ?_
     rotate_left
     ·(intro w' _; go_simp; try with_reducible rfl)
     try simp only [Act.put,Sp4,Sp5,Sp6]
     refine AnyG.take (i:=4) (v:=?_) rfl (by kernel_rfl) (fun _ _ _ h => h) rfl ?_ hS ?_
     rotate_left
     ·(intro w' _; go_simp; try with_reducible rfl)
     try simp only [Act.put,Sp4,Sp5,Sp6]
     refine AnyG.take (i:=7) (v:=?_) rfl (by kernel_rfl) (fun _ _ _ h => h) rfl ?_ hS ?_
     rotate_left
     ·(intro w' hSw; (try dsimp only at hSw); have q0:=cellC hSw q0; go_simp; try with_reducible rfl)
     try simp only [Act.put,Sp4,Sp5,Sp6]
     refine AnyG.take (i:=8) (v:=?_) rfl (by kernel_rfl) (fun _ _ _ h => h) rfl ?_ hS ?_
     rotate_left
     ·(intro w' hSw; (try dsimp only at hSw); have s0:=cellC hSw s0; go_simp; try with_reducible rfl)
     try simp only [Act.put,Sp4,Sp5,Sp6]
     refine AnyG.take (i:=9) (v:=?_) rfl (by kernel_rfl) (fun _ _ _ h => h) rfl ?_ hS ?_
     rotate_left
     ·(intro w' _; go_simp; try with_reducible rfl)
     try simp only [Act.put,Sp4,Sp5,Sp6]
     refine RegRel.AnyG.rel [0,1,2,4,7,8,9] [13] [[],[],[],[],[],[3],[3,5],[],[],[],[3],[3,5,6,10],[],[3,5,6,10,11,12]] [(46,3),(48,5),(49,6),(53,10),(54,11),(11,12)] [(3,fun vs _ => vs 3 = .int .i64 (xx + 200)),(5,fun vs _ => vs 5 = .pointer (some ⟨b + 1 + 1 + 1,j * 802 + (xx + 200).toNat * 2,none⟩)),(6,fun vs _ => vs 6 = .agg #[.int .i64 (T (ix j xx)).1,.int .i64 (T (ix j xx)).2]),(10,fun vs _ => vs 10 = .agg #[.int .i64 (wt j xx).1,.int .i64 (wt j xx).2]),(11,fun vs _ => vs 11 = .agg #[.int .i64 ((T (ix j xx)).1 + (wt j xx).1),.int .i64 ((T (ix j xx)).2 + (wt j xx).2)]),(12,fun vs w1 => ∃ g,vs 12 = .pointer (some ⟨g,0,none⟩) ∧ V.heap.size ≤ g ∧ Bx w1 g 23 #[.int .i64 0,.int .i64 0])]
      (by kernel_rfl) (by kernel_rfl) (by kernel_rfl) (by decide) (by decide) (fun _ h => Below.trans ((Below.refl V.heap.size V).drew) h) ?hst ?hcg ?hstep ?hfin
     case hst => exact ⟨fun _ _ _ h _ => h,fun _ _ _ h _ => h,fun _ _ _ h _ => h,fun _ _ _ h _ => h,fun _ _ _ h _ => h,fun _ _ _ ⟨g,h1,h2,h3⟩ hb => ⟨g,h1,h2,h3.call hb⟩,trivial⟩
     case hcg => exact ⟨fun _ _ _ he h => (he 3 (by simp)).trans h,fun _ _ _ he h => (he 5 (by simp)).trans h,fun _ _ _ he h => (he 6 (by simp)).trans h,fun _ _ _ he h => (he 10 (by simp)).trans h,fun _ _ _ he h => (he 11 (by simp)).trans h,fun _ _ _ he ⟨g,h1,h2⟩ => ⟨g,(he 12 (by simp)).trans h1,h2⟩,trivial⟩
     case hstep =>
      refine ⟨?_,?_,?_,?_,?_,?_,trivial⟩
      ·rintro vs v1 - hv
       refine ⟨_,_,rfl,rfl,?_⟩
       clear hS
       simp only [RegRel.fillT,List.foldl_cons,List.foldl_nil,Sp4,Sp5,Sp6]
       go_simp
       refine (place_any xx _ (by omega) (by omega)).mono ?_
       rintro rr v2 ⟨rfl,rfl⟩
       first | exact ⟨rfl,Below.refl _ _,rfl⟩ | exact ⟨rfl,Below.refl _ _⟩ | exact Below.refl _ _ | trace_state
      ·rintro vs v1 ⟨h3,-⟩ hv
       refine ⟨_,_,rfl,rfl,?_⟩
       clear hS
       dsimp only at h3
       simp only [RegRel.fillT,List.foldl_cons,List.foldl_nil,Sp4,Sp5,Sp6]
       simp only [h3]
       clear h3
       have q1 : 0 ≤ xx + 200:=by omega
       have q2 : xx + 200 < 401:=by omega
       go_simp
       first | exact ⟨rfl,Below.refl _ _,rfl⟩ | exact ⟨rfl,Below.refl _ _⟩ | exact Below.refl _ _ | trace_state
      ·rintro vs v1 ⟨h3,h5,-⟩ hv
       refine ⟨_,_,rfl,rfl,?_⟩
       clear hS
       dsimp only at h3 h5
       simp only [RegRel.fillT,List.foldl_cons,List.foldl_nil,Sp4,Sp5,Sp6]
       simp only [h5]
       clear h3 h5
       have p0:=cellC (W:=V.drew) hv p0
       have p1:=cellC (W:=V.drew) hv p1
       go_simp
       first | exact ⟨rfl,Below.refl _ _,rfl⟩ | exact ⟨rfl,Below.refl _ _⟩ | exact Below.refl _ _ | trace_state
      ·rintro vs v1 ⟨h3,-⟩ hv
       refine ⟨_,_,rfl,rfl,?_⟩
       clear hS
       dsimp only at h3
       simp only [RegRel.fillT,List.foldl_cons,List.foldl_nil,Sp4,Sp5,Sp6]
       clear h3
       have hBv : Below w.heap.size w v1:=by rw [HBE.out]; exact DB.trans ((((Below.refl V.heap.size V).drew).trans hv).mono hbV0)
       go_simp
       refine (H97.out _ hBv j xx (by omega) (by omega) (by omega)).mono ?_
       rintro rr v2 ⟨rfl,hb2⟩
       first | exact ⟨rfl,hb2,rfl⟩ | exact ⟨rfl,hb2⟩ | exact hb2 | trace_state
      ·rintro vs v1 ⟨h3,h5,h6,h10,-⟩ hv
       refine ⟨_,_,rfl,rfl,?_⟩
       clear hS
       dsimp only at h3 h5 h6 h10
       simp only [RegRel.fillT,List.foldl_cons,List.foldl_nil,Sp4,Sp5,Sp6]
       simp only [h6,h10]
       clear h3 h5 h6 h10
       go_simp
       refine (plus_any _ _ _ _ _ (by omega) (by omega) (by omega) (by omega) (by omega) (by omega) (by omega) (by omega)).mono ?_
       rintro rr v2 ⟨rfl,hb2⟩
       first | exact ⟨rfl,hb2,rfl⟩ | exact ⟨rfl,hb2⟩ | exact hb2 | trace_state
      ·rintro vs v1 - hv
       refine ⟨_,_,rfl,rfl,?_⟩
       clear hS
       simp only [RegRel.fillT,List.foldl_cons,List.foldl_nil,Sp4,Sp5,Sp6]
       go_simp
       have hva : V.heap.size ≤ v1.heap.size:=hv.size
       first | exact ⟨⟨_,rfl,hva,Bx.new _ _ _⟩,(Below.refl _ _).alloc (Nat.le_refl _) _,rfl⟩ | exact ⟨⟨_,rfl,hva,Bx.new _ _ _⟩,(Below.refl _ _).alloc (Nat.le_refl _) _⟩ | trace_state
     case hfin =>
      rintro vs v1 ⟨h3,h5,h6,h10,h11,⟨ga,h12,hga,hxa⟩,-⟩ hv
      clear hS
      dsimp only at h3 h5 h6 h10 h11 h12
      simp only [List.filter_cons,List.contains_cons,List.contains_nil,Nat.reduceBEq,Bool.or_false,Bool.not_false,if_true,List.filter_nil]
      simp only [RegRel.fillT,List.foldl_cons,List.foldl_nil,Sp4,Sp5,Sp6]
      simp only [h3,h5,h6,h10,h11,h12]
      clear h3 h5 h6 h10 h11 h12
      have hvW : Below V.heap.size V v1:=((Below.refl V.heap.size V).drew).trans hv
      obtain ⟨t0,t1,tf,tz⟩:=hxa.two
      refine RegRel.wpOps_go rfl rfl ?_
      go_simp
      refine RegRel.wpOps_end ?_
      obtain ⟨so,hso⟩ : ∃ so,soFar wt j T xx = so:=⟨_,rfl⟩
      have h1 : (T (ix j xx)).1 + (wt j xx).1 = so.1:=by rw [← hso]; rfl
      have h2 : (T (ix j xx)).2 + (wt j xx).2 = so.2:=by rw [← hso]; rfl
      rw [h1,h2]
      have HSO:=Lib.hid hso
      clear hso h1 h2 t0 t1 tf tz s0 sf sz z0 zf zz q0 qf qz p0 p1
      have G0:=(hxa.set_ 0 (.int .i64 so.1)).set_ 1 (.int .i64 so.2)
      have UV : Below V.heap.size V ((v1.setCell ⟨ga,0,none⟩ (.int .i64 so.1)).setCell ⟨ga,1,none⟩ (.int .i64 so.2)):=(hvW.setCell (p:=⟨ga,0,none⟩) hga _).setCell (p:=⟨ga,1,none⟩) hga _
      obtain ⟨U,hU⟩ : ∃ U,((v1.setCell ⟨ga,0,none⟩ (.int .i64 so.1)).setCell ⟨ga,1,none⟩ (.int .i64 so.2)) = U:=⟨_,rfl⟩
      rw [hU] at G0 UV ⊢
      clear hU hxa hvW
      have FT:=DT.call UV
      have F3:=D3.call UV
      have F4:=D4.call UV
      have F5:=D5.call UV
      have F7:=D7.call UV
      have F9:=D9.call UV
      have FG:=DG.call UV
      have FM:=DM.call UV
      have hUV:=UV.size
      obtain ⟨l0,l1,l2,l3,lf,lz⟩:=F3.four
      obtain ⟨s0,sf,sz⟩:=F9.one
      gi_wp2_with (first
       | ((with_reducible (show wpListIn _ _ _ _ _ (⟨some 56,_,_,_,_,_⟩ :: _) _ _)); refine wpListIn_val rfl (fun _ h => by cases h) (fun _ _ => trivial) (run_load_bx 91 (.tmp 4) rfl (b + 1) rfl 91 _ _ F4 Try.underlying91 rfl (by rw [zarr_size]; kernel_rfl)) ?_))
      refine ⟨trivial,?_⟩
      have hB3 : Below w.heap.size w U:=by rw [HBE.out]; exact DB.trans (UV.mono hbV0)
      refine (CallsIn.inRound l (callsIn_wide.2 (H104.out _ hB3 j xx hjn (by omega) (by omega)))).mono ?_
      rintro e4 w4 ⟨⟨gi,rfl,hgi,hbi⟩,hb4⟩
      have hgiU : ga < gi:=Nat.lt_of_lt_of_le G0.lt hgi
      have hgi4:=hbi.lt
      have G4:=G0.call hb4
      have ET:=FT.call hb4
      have E3:=F3.call hb4
      have E4:=F4.call hb4
      have E5:=F5.call hb4
      have E7:=F7.call hb4
      have E9:=F9.call hb4
      have EG:=FG.call hb4
      have EM:=FM.call hb4
      have EB : Below b w w4:=(DB.trans (UV.mono hbV0)).trans (hb4.mono (by omega))
      have FV4 : Below V.heap.size V w4:=UV.trans (hb4.mono UV.size)
      have EK : KeepsFrom V0.heap.size V w4:=keepsFrom_below FV4
      have hTl:=DT.lt
      have h9l:=D9.lt
      have h2l:=DG.lt
      clear FT F3 F4 F5 F7 F9 FG FM G0 hB3 hb4 UV l0 l1 l2 l3 lf lz s0 sf sz
      have hfo:=HFOL.out j xx
      obtain ⟨lo,hlo⟩ : ∃ lo,(fol j xx).1 = lo:=⟨_,rfl⟩
      obtain ⟨hi,hhi⟩ : ∃ hi,(fol j xx).2 = hi:=⟨_,rfl⟩
      rw [hlo,hhi] at hfo hbi
      have HLO:=Lib.hid hlo
      have HHI:=Lib.hid hhi
      clear hlo hhi
      obtain ⟨o1,o2,o3,o4,o5⟩:=hfo
      have HO5:=Lib.hid o5
      clear o5
      gi_wp2_with fail
      have hr4 : w4.heap[l]? = some (.loop r):=(FV4.block l hlV).trans HR.out
      have hV4:=FV4.size
      clear FV4
      refine wpIn_rangeFunc_ownN (F:=Fence.wide.inRound l) (l₀:=l) (r₀:=r) rfl hr4 (by omega) (gf:=105) (lb:=#[.pointer (some ⟨gi,0,none⟩)]) rfl trivial (enters_of Try.func105 (by kernel_rfl) rfl)
       ((numbers1_stops Fence.wide (9 - 1 - 1 - 1) trivial rfl (by omega) gi lo hi (by omega) (by omega) (by omega) (by omega) w4 hbi).inRound l) (fun h k => sameBox_t h k) (sameBox_b hbi.lt) (Below.refl _ _) (fun _ => rfl)
       (fun pre' X => ((((((((((Bx X (b + 1 + 1 + 1) 135 (parr (n * 401) (onto (j + 1) so T (pre'.map (·.1)))) ∧ Bx X b 26 #[x0,x1,x2,.slice A n c]) ∧ Bx X (b + 1) 91 (zarr f)) ∧ Bx X (b + 1 + 1) 54 #[.func (.func 97) #[] #[.pointer (some ⟨gl,0,none⟩),.pointer (some ⟨gm,0,none⟩)]]) ∧ Bx X (b + 1 + 1 + 1 + 1) 128 #[.slice (some ⟨b + 1 + 1 + 1,0,none⟩) n n]) ∧ Bx X g9 3 #[.int .i64 j]) ∧ Bx X g2 23 #[.int .i64 m0,.int .i64 m1]) ∧ Bx X ga 23 #[.int .i64 so.1,.int .i64 so.2]) ∧ Marks b X ds2) ∧ Below b w X) ∧ KeepsFrom V0.heap.size V X))
       (fun _ _ _ => False)
       (OwnFrom.and (OwnFrom.and (OwnFrom.and (OwnFrom.and (OwnFrom.and (OwnFrom.and (OwnFrom.and (OwnFrom.and (OwnFrom.and (OwnFrom.and (Own.from (bx_own _ _ _) _) (Own.from (bx_own _ _ _) _)) (Own.from (bx_own _ _ _) _)) (Own.from (bx_own _ _ _) _)) (Own.from (bx_own _ _ _) _)) (Own.from (bx_own _ _ _) _)) (Own.from (bx_own _ _ _) _)) (Own.from (bx_own _ _ _) _)) (marks_ownFrom (fun d hd D he => by have:=hMlt2 d hd D he; omega))) (ownFrom_below (by rw [← HBE.out]; exact Nat.le_refl _) (by omega))) (ownFrom_keepsFrom hV4))
       (fun _ _ _ _ _ hs _ _ => hs)
       ⟨⟨⟨⟨⟨⟨⟨⟨⟨⟨ET,E3⟩,E4⟩,E5⟩,E7⟩,E9⟩,EG⟩,G4⟩,EM⟩,EB⟩,EK⟩
       (fun y a'' _ => a'' = { tmps:=#[.agg #[x0,x1,x2,.slice A n c],.agg (zarr f),.func (.func 97) #[] #[.pointer (some ⟨gl,0,none⟩),.pointer (some ⟨gm,0,none⟩)],.pointer (some ⟨b,0,none⟩),.pointer (some ⟨b + 1,0,none⟩),.pointer (some ⟨b + 1 + 1,0,none⟩),.slice none 0 0,.pointer (some ⟨b + 1 + 1 + 1 + 1,0,none⟩),.pointer (some ⟨g9,0,none⟩),undef,.int .i64 xx,.pointer (some ⟨ga,0,none⟩),.int .i64 y.1,.pointer (some ⟨b,3,none⟩),.slice A n c,.int .i64 n,.slice (some ⟨b + 1 + 1 + 1,0,none⟩) n n,.pointer (some ⟨b,3,none⟩),.slice A n c,.int .i64 n,.int .i64 ((n : Int) - 1),.int .i64 j,.bool true,.int .i64 j,.int .i64 j,.int .i64 ((j : Int) + 1),.pointer (some ⟨b + 1,(j + 1) * 2,none⟩),.agg #[.int .i64 k0,.int .i64 k1],.func (.func 105) #[] #[.pointer (some ⟨g9 + 1,0,none⟩)],undef,undef,undef,undef,undef,undef,undef,undef,undef,.int .i64 j,.pointer (some ⟨b + 1,j * 2,none⟩),.agg #[.int .i64 m0,.int .i64 m1],.func (.func 105) #[] #[.pointer (some ⟨g2,0,none⟩)],.int .i64 xx,.slice (some ⟨b + 1 + 1 + 1,0,none⟩) n n,.int .i64 j,.int .i64 xx,.int .i64 (xx + 200),.pointer (some ⟨b + 1 + 1 + 1,j * 802,none⟩),.pointer (some ⟨b + 1 + 1 + 1,j * 802 + (xx + 200).toNat * 2,none⟩),.agg #[.int .i64 (T (ix j xx)).1,.int .i64 (T (ix j xx)).2],.func (.func 97) #[] #[.pointer (some ⟨gl,0,none⟩),.pointer (some ⟨gm,0,none⟩)],.int .i64 j,.int .i64 xx,.agg #[.int .i64 (wt j xx).1,.int .i64 (wt j xx).2],.agg #[.int .i64 so.1,.int .i64 so.2],.agg #[x0,x1,x2,.slice A n c],.agg (zarr f),.int .i64 j,.int .i64 xx,.func (.func 105) #[] #[.pointer (some ⟨gi,0,none⟩)],.int .i64 y.1,undef,undef,undef,undef,undef,undef,undef,undef,undef,undef,undef,undef,undef,undef,undef,undef,undef,u78,undef],defers:=[] })
       (fun _ _ _ _ _ _ hs _ _ => hs)
       ?assign3 ?body3 ?done3 ?stop3
      case assign3 =>
       rintro l2 pre' y X K hi' hK
       gi_wp2
       exact hK _ _ (KeepsFrom.refl _ _) rfl hi' rfl
      case body3 =>
       clear G4 ET E3 E4 E5 E7 E9 EG EM EB EK hr4 hbi
       rintro l2 pre' y a'' X hl2 ⟨r2,hr2⟩ ⟨⟨⟨⟨⟨⟨⟨⟨⟨⟨XT,X3⟩,X4⟩,X5⟩,X7⟩,X9⟩,XG⟩,XS⟩,XM⟩,XB⟩,XK⟩ rfl hlt2
       have hy1:=y.2.1
       have hy2:=y.2.2
       obtain ⟨yy,hyy⟩ : ∃ yy,y.1 = yy:=⟨_,rfl⟩
       rw [hyy] at hy1 hy2 ⊢
       have HY:=Lib.hid hyy
       have hlX:=(Array.getElem?_eq_some_iff.1 hr2).1
       clear hyy hr2
       have hyb:=HO5.out yy hy1 hy2
       obtain ⟨hyb1,hyb2⟩:=hyb
       obtain ⟨R,hR⟩ : ∃ R,onto (j + 1) so T (pre'.map (·.1)) = R:=⟨_,rfl⟩
       rw [hR] at XT
       have HRR:=Lib.hid hR
       clear hR
       obtain ⟨s0,sf,sz⟩:=X9.one
       obtain ⟨z0,zf,zz⟩:=X7.one
       obtain ⟨t0,t1,tf,tz⟩:=XS.two
       have hix : ix (j + 1) yy < n * 401:=ix_lt hjn hyb1 hyb2
       have hoff2 : (ix (j + 1) yy) * 2 = (j + 1) * 802 + (yy + 200).toNat * 2:=by unfold ix; omega
       have p0:=(XT.cell ((j + 1) * 802 + (yy + 200).toNat * 2)).trans (parr_fst (n * 401) R hix hoff2.symm)
       have p1:=(XT.cell ((j + 1) * 802 + (yy + 200).toNat * 2 + 1)).trans (parr_snd (n * 401) R hix (by omega))
       refine wpIn_block ?_
       refine AnyG.startIn (fun w' : World => Below X.heap.size X w') (fun i => i != 17) (by kernel_rfl) (by kernel_rfl) (fun _ _ h => h) ?_
       have hS : (fun w' : World => Below X.heap.size X w') (World.drew _):=(Below.refl _ _).drew
       refine AnyG.take (i:=0) (v:=?_) rfl (by kernel_rfl) (fun _ _ _ h => h) rfl ?_ hS ?_
       rotate_left
       ·(intro w' hSw; (try dsimp only at hSw); have z0:=cellC hSw z0; go_simp; try with_reducible rfl)
       try simp only [Act.put,Sp4,Sp5,Sp6]
       refine AnyG.take (i:=1) (v:=?_) rfl (by kernel_rfl) (fun _ _ _ h => h) rfl ?_ hS ?_
       rotate_left
       ·(intro w' hSw; (try dsimp only at hSw); have s0:=cellC hSw s0; go_simp; try with_reducible rfl)
       try simp only [Act.put,Sp4,Sp5,Sp6]
       refine AnyG.take (i:=2) (v:=?_) rfl (by kernel_rfl) (fun _ _ _ h => h) rfl ?_ hS ?_
       rotate_left
       ·(intro w' _; go_simp; try with_reducible rfl)
       try simp only [Act.put,Sp4,Sp5,Sp6]
       refine AnyG.take (i:=3) (v:=?_) rfl (by kernel_rfl) (fun _ _ _ h => h) rfl ?_ hS ?_
       rotate_left
       ·(intro w' _; go_simp; try with_reducible rfl)
       try simp only [Act.put,Sp4,Sp5,Sp6]
       refine AnyG.take (i:=5) (v:=?_) rfl (by kernel_rfl) (fun _ _ _ h => h) rfl ?_ hS ?_
       rotate_left
       ·(intro w' hSw; (try dsimp only at hSw); have z0:=cellC hSw z0; go_simp; try with_reducible rfl)
       try simp only [Act.put,Sp4,Sp5,Sp6]
       refine AnyG.take (i:=6) (v:=?_) rfl (by kernel_rfl) (fun _ _ _ h => h) rfl ?_ hS ?_
       rotate_left
       ·(intro w' hSw; (try dsimp only at hSw); have s0:=cellC hSw s0; go_simp; try with_reducible rfl)
       try simp only [Act.put,Sp4,Sp5,Sp6]
       refine AnyG.take (i:=7) (v:=?_) rfl (by kernel_rfl) (fun _ _ _ h => h) rfl ?_ hS ?_
       rotate_left
       ·(intro w' _; go_simp; try with_reducible rfl)
       try simp only [Act.put,Sp4,Sp5,Sp6]
       refine AnyG.take (i:=8) (v:=?_) rfl (by kernel_rfl) (fun _ _ _ h => h) rfl ?_ hS ?_
       rotate_left
       ·(intro w' _; go_simp; try with_reducible rfl)
       try simp only [Act.put,Sp4,Sp5,Sp6]
       refine AnyG.take (i:=10) (v:=?_) rfl (by kernel_rfl) (fun _ _ _ h => h) rfl ?_ hS ?_
       rotate_left
       ·(intro w' _; go_simp; try with_reducible rfl)
       try simp only [Act.put,Sp4,Sp5,Sp6]
       refine AnyG.take (i:=13) (v:=?_) rfl (by kernel_rfl) (fun _ _ _ h => h) rfl ?_ hS ?_
       rotate_left
       ·(intro w' hSw; (try dsimp only at hSw); have t0:=cellC hSw t0; have t1:=cellC hSw t1; go_simp; try with_reducible rfl)
       try simp only [Act.put,Sp4,Sp5,Sp6]
       refine RegRel.AnyG.rel [0,1,2,3,5,6,7,8,10,13] [17] [[],[],[],[],[],[],[],[],[],[4],[],[4,9],[4,9,11],[],[4,9,11,12],[],[4,9,11,12,14,15],[4,9,11,12,14,15,16]] [(65,4),(70,9),(72,11),(73,12),(75,14),(76,15),(77,16)] [(4,fun vs _ => vs 4 = .int .i64 (yy + 200)),(9,fun vs _ => vs 9 = .int .i64 (yy + 200)),(11,fun vs _ => vs 11 = .pointer (some ⟨b + 1 + 1 + 1,(j + 1) * 802 + (yy + 200).toNat * 2,none⟩)),(12,fun vs _ => vs 12 = .agg #[.int .i64 (R (ix (j + 1) yy)).1,.int .i64 (R (ix (j + 1) yy)).2]),(14,fun vs _ => vs 14 = .agg #[.int .i64 (min (R (ix (j + 1) yy)).1 so.1),.int .i64 (max (R (ix (j + 1) yy)).2 so.2)]),(15,fun vs _ => vs 15 = .pointer (some ⟨b + 1 + 1 + 1,(j + 1) * 802,none⟩)),(16,fun vs _ => vs 16 = .pointer (some ⟨b + 1 + 1 + 1,(j + 1) * 802 + (yy + 200).toNat * 2,none⟩))]
        (by kernel_rfl) (by kernel_rfl) (by kernel_rfl) (by decide) (by decide) (fun _ h => Below.trans ((Below.refl X.heap.size X).drew) h) ?hst ?hcg ?hstep ?hfin
       case hst => exact ⟨fun _ _ _ h _ => h,fun _ _ _ h _ => h,fun _ _ _ h _ => h,fun _ _ _ h _ => h,fun _ _ _ h _ => h,fun _ _ _ h _ => h,fun _ _ _ h _ => h,trivial⟩
       case hcg => exact ⟨fun _ _ _ he h => (he 4 (by simp)).trans h,fun _ _ _ he h => (he 9 (by simp)).trans h,fun _ _ _ he h => (he 11 (by simp)).trans h,fun _ _ _ he h => (he 12 (by simp)).trans h,fun _ _ _ he h => (he 14 (by simp)).trans h,fun _ _ _ he h => (he 15 (by simp)).trans h,fun _ _ _ he h => (he 16 (by simp)).trans h,trivial⟩
       case hstep =>
        refine ⟨?_,?_,?_,?_,?_,?_,?_,trivial⟩
        ·rintro vs v1 - hv
         refine ⟨_,_,rfl,rfl,?_⟩
         clear hS
         simp only [RegRel.fillT,List.foldl_cons,List.foldl_nil,Sp4,Sp5,Sp6]
         go_simp
         refine (place_any yy _ (by omega) (by omega)).mono ?_
         rintro rr v2 ⟨rfl,rfl⟩
         first | exact ⟨rfl,Below.refl _ _,rfl⟩ | exact ⟨rfl,Below.refl _ _⟩ | exact Below.refl _ _ | trace_state
        ·rintro vs v1 ⟨h4,-⟩ hv
         refine ⟨_,_,rfl,rfl,?_⟩
         clear hS
         dsimp only at h4
         simp only [RegRel.fillT,List.foldl_cons,List.foldl_nil,Sp4,Sp5,Sp6]
         clear h4
         go_simp
         refine (place_any yy _ (by omega) (by omega)).mono ?_
         rintro rr v2 ⟨rfl,rfl⟩
         first | exact ⟨rfl,Below.refl _ _,rfl⟩ | exact ⟨rfl,Below.refl _ _⟩ | exact Below.refl _ _ | trace_state
        ·rintro vs v1 ⟨h4,h9,-⟩ hv
         refine ⟨_,_,rfl,rfl,?_⟩
         clear hS
         dsimp only at h4 h9
         simp only [RegRel.fillT,List.foldl_cons,List.foldl_nil,Sp4,Sp5,Sp6]
         simp only [h9]
         clear h4 h9
         have q1 : 0 ≤ yy + 200:=by omega
         have q2 : yy + 200 < 401:=by omega
         go_simp
         first | exact ⟨rfl,Below.refl _ _,rfl⟩ | exact ⟨rfl,Below.refl _ _⟩ | exact Below.refl _ _ | trace_state
        ·rintro vs v1 ⟨h4,h9,h11,-⟩ hv
         refine ⟨_,_,rfl,rfl,?_⟩
         clear hS
         dsimp only at h4 h9 h11
         simp only [RegRel.fillT,List.foldl_cons,List.foldl_nil,Sp4,Sp5,Sp6]
         simp only [h11]
         clear h4 h9 h11
         have p0:=cellC (W:=X.drew) hv p0
         have p1:=cellC (W:=X.drew) hv p1
         go_simp
         first | exact ⟨rfl,Below.refl _ _,rfl⟩ | exact ⟨rfl,Below.refl _ _⟩ | exact Below.refl _ _ | trace_state
        ·rintro vs v1 ⟨h4,h9,h11,h12,-⟩ hv
         refine ⟨_,_,rfl,rfl,?_⟩
         clear hS
         dsimp only at h4 h9 h11 h12
         simp only [RegRel.fillT,List.foldl_cons,List.foldl_nil,Sp4,Sp5,Sp6]
         simp only [h12]
         clear h4 h9 h11 h12
         go_simp
         refine (cover_any _ _ _ _ _).mono ?_
         rintro rr v2 ⟨rfl,hb2⟩
         first | exact ⟨rfl,hb2,rfl⟩ | exact ⟨rfl,hb2⟩ | exact hb2 | trace_state
        ·rintro vs v1 - hv
         refine ⟨_,_,rfl,rfl,?_⟩
         clear hS
         simp only [RegRel.fillT,List.foldl_cons,List.foldl_nil,Sp4,Sp5,Sp6]
         go_simp
         first | exact ⟨rfl,Below.refl _ _,rfl⟩ | exact ⟨rfl,Below.refl _ _⟩ | exact Below.refl _ _ | trace_state
        ·rintro vs v1 ⟨h4,h9,h11,h12,h14,h15,-⟩ hv
         refine ⟨_,_,rfl,rfl,?_⟩
         clear hS
         dsimp only at h4 h9 h11 h12 h14 h15
         simp only [RegRel.fillT,List.foldl_cons,List.foldl_nil,Sp4,Sp5,Sp6]
         simp only [h4,h15]
         clear h4 h9 h11 h12 h14 h15
         have q1 : 0 ≤ yy + 200:=by omega
         have q2 : yy + 200 < 401:=by omega
         go_simp
         first | exact ⟨rfl,Below.refl _ _,rfl⟩ | exact ⟨rfl,Below.refl _ _⟩ | exact Below.refl _ _ | trace_state
       case hfin =>
        rintro vs v1 ⟨h4,h9,h11,h12,h14,h15,h16,-⟩ hv
        clear hS
        dsimp only at h4 h9 h11 h12 h14 h15 h16
        simp only [List.filter_cons,List.contains_cons,List.contains_nil,Nat.reduceBEq,Bool.or_false,Bool.not_false,if_true,List.filter_nil]
        simp only [RegRel.fillT,List.foldl_cons,List.foldl_nil,Sp4,Sp5,Sp6]
        simp only [h4,h9,h11,h12,h14,h15,h16]
        clear h4 h9 h11 h12 h14 h15 h16
        have hvW : Below X.heap.size X v1:=((Below.refl X.heap.size X).drew).trans hv
        have hoff3 : (ix (j + 1) yy) * 2 = (j + 1) * 802 + (yy + 200).toNat * 2:=hoff2
        have XTv:=XT.drew.call hv
        have p0:=(XTv.cell ((j + 1) * 802 + (yy + 200).toNat * 2)).trans (parr_fst (n * 401) R hix hoff3.symm)
        have p1:=(XTv.cell ((j + 1) * 802 + (yy + 200).toNat * 2 + 1)).trans (parr_snd (n * 401) R hix (by omega))
        have pf:=XTv.free
        refine RegRel.wpOps_go rfl rfl ?_
        go_simp
        refine RegRel.wpOps_end ?_
        have kf : ∀ B,KeepsFrom B X ((v1.setCell ⟨b + 1 + 1 + 1,(j + 1) * 802 + (yy + 200).toNat * 2,none⟩ (.int .i64 (min (R (ix (j + 1) yy)).1 so.1))).setCell ⟨b + 1 + 1 + 1,(j + 1) * 802 + (yy + 200).toNat * 2 + 1,none⟩ (.int .i64 (max (R (ix (j + 1) yy)).2 so.2))):=fun B => (keepsFrom_below hvW).trans (((KeepsOthers.setCell _ _ _).from _).trans ((KeepsOthers.setCell _ _ _).from _))
        have hbX : b ≤ X.heap.size:=by have:=X3.lt; omega
        rw [v5] at XK
        refine ⟨kf _,?_,⟨⟨⟨⟨⟨⟨⟨⟨⟨⟨?_,?_⟩,?_⟩,?_⟩,?_⟩,?_⟩,?_⟩,?_⟩,?_⟩,?_⟩,XK.trans (kf _)⟩⟩
        ·exact (Below.heap_setCell _ _ _ _ (by simp <;> omega)).trans ((Below.heap_setCell _ _ _ _ (by simp <;> omega)).trans (hvW.block _ (by omega)))
        ·show Bx _ _ 135 (parr (n * 401) (onto (j + 1) so T ((pre' ++ [y]).map (·.1))))
         rw [List.map_append,List.map_cons,List.map_nil,HY.out,onto_snoc,HRR.out]
         have hs:=(XTv.set_ ((j + 1) * 802 + (yy + 200).toNat * 2) (.int .i64 (min (R (ix (j + 1) yy)).1 so.1))).set_ ((j + 1) * 802 + (yy + 200).toNat * 2 + 1) (.int .i64 (max (R (ix (j + 1) yy)).2 so.2))
         rw [parr_set (n * 401) R hix hoff3.symm] at hs
         exact hs
        ·exact ((X3.drew.call hv).far (by simp <;> omega) _).far (by simp <;> omega) _
        ·exact ((X4.drew.call hv).far (by simp <;> omega) _).far (by simp <;> omega) _
        ·exact ((X5.drew.call hv).far (by simp <;> omega) _).far (by simp <;> omega) _
        ·exact ((X7.drew.call hv).far (by simp <;> omega) _).far (by simp <;> omega) _
        ·exact ((X9.drew.call hv).far (by simp <;> omega) _).far (by simp <;> omega) _
        ·exact ((XG.drew.call hv).far (by simp <;> omega) _).far (by simp <;> omega) _
        ·exact ((XS.drew.call hv).far (by simp <;> omega) _).far (by simp <;> omega) _
        ·exact XM.kept fun k o _ hk ho => (kf 0).same k o (Nat.zero_le _) hk ho
        ·exact ((XB.trans (hvW.mono hbX)).setCell (p:=⟨b + 1 + 1 + 1,(j + 1) * 802 + (yy + 200).toNat * 2,none⟩) (by simp <;> omega) _).setCell (p:=⟨b + 1 + 1 + 1,(j + 1) * 802 + (yy + 200).toNat * 2 + 1,none⟩) (by simp <;> omega) _
      case done3 =>
       clear G4 ET E3 E4 E5 E7 E9 EG EM EB EK hr4 hbi
       rintro ys' X hys ⟨⟨⟨⟨⟨⟨⟨⟨⟨⟨XT,X3⟩,X4⟩,X5⟩,X7⟩,X9⟩,XG⟩,XS⟩,XM⟩,XB⟩,XK⟩
       rw [hys] at XT
       gi_wp2
       refine ⟨XK,?_,⟨⟨⟨⟨⟨⟨⟨⟨?_,X3⟩,X4⟩,X5⟩,X7⟩,X9⟩,XG⟩,XM⟩,XB⟩⟩
       ·unfold Bx at XG DG
        exact XG.trans DG.symm
       ·show Bx _ _ 135 (parr (n * 401) (passOn wt fol j T1 ((pre ++ [x]).map (·.1))))
        rw [List.map_append,List.map_cons,List.map_nil,HX.out,passOn_snoc,HT.out,HSO.out,HLO.out,HHI.out]
        exact XT
      case stop3 =>
       rintro c pre' X _ h
       exact h.elim
    case done2 =>
     rintro D2 ys V hD2 hys ⟨⟨⟨⟨⟨⟨⟨⟨DT,D3⟩,D4⟩,D5⟩,D7⟩,D9⟩,DG⟩,DM⟩,DB⟩ hKD
     rw [hys] at DT
     have DM':=DM.more (D:=D2) (by omega) hKD (fun d hd D' he => by have:=hMlt2 d hd D' he; omega)
     have hTb : passOn wt fol j T1 (rngL m0 m1) = Tbe wt fol f (j + 1):=by
      rw [← HM0.out,← HM1.out,← HT1.out,← HK0.out,← HK1.out]; rfl
     rw [hTb] at DT
     clear hKD hTb
     go_wp2
     refine ⟨⟨j + 1,_,_,_,_,_,_,_,_,_,_,_,_,_,_,by omega,rfl,DM',by have:=D7.lt; omega,DT,D3,D4,D5,D7,DB⟩,?_⟩
     show ((n : Int) - ((j : Int) + 1)).toNat < ((n : Int) - (j : Int)).toNat
     omega
    case stop2 =>
     rintro D c pre W _ _ h _
     exact h.elim
   case stop =>
    rintro D c pre W _ _ h _
    exact h.elim
  ·obtain rfl : n = j + 1:=by omega
   have hlt : (((j + 1 : Nat) : Int) - 1) ≤ (j : Int):=by omega
   obtain ⟨z0,zf,zz⟩:=B7.one
   go_wp2
   refine leavesM_marks (B:=b) ds W hM fun W' hb hk _ => ?_
   refine ⟨_,results_tmp rfl _ _ _,⟨b + 1 + 1 + 1,rfl,by have:=HBE.out; omega,(hk _ (hM.ne BT)).trans BT⟩,?_⟩
   rw [HBE.out]
   exact hB.trans hb
end Go.Proofs.Ytgbogdckmfencaa
