/- Rows of numbers, and the mathematics of bridge.widths. -/
import Derived.Test.YtgbogdckmfencaaWb
import Derived.Test.YtgbogdckmfencaaR2
set_option linter.unusedSimpArgs false
set_option linter.unusedVariables false
namespace Go.Proofs.Ytgbogdckmfencaa
open Go.RowKit Go.Shelf
attribute [local go_sem] Oper.semAt_some
/-- The cells of m numbers. -/
def iarr (m : Nat) (g : Nat → Int) : Array Value:=Array.ofFn (n:=m) fun j => .int .i64 (g j.val)
theorem iarr_get (m : Nat) (g : Nat → Int) {i : Nat} (hi : i < m) : (iarr m g)[i]? = some (.int .i64 (g i)):=by
 unfold iarr; rw [Array.getElem?_ofFn,dif_pos hi]
theorem iarr_set (m : Nat) (g : Nat → Int) {i : Nat} (a : Int) : (iarr m g).setIfInBounds i (.int .i64 a) = iarr m (fun k => if k = i then a else g k):=by
 apply Array.ext
 ·simp [iarr]
 ·intro j h1 h2
  have hj : j < m:=by simpa [iarr] using h2
  rw [Array.getElem_setIfInBounds (by simpa [iarr] using hj)]
  by_cases e : i = j
  ·subst e; simp [iarr]
  ·rw [if_neg e]; simp [iarr,Ne.symm e]
theorem iarr_made (m : Nat) : madeCells #[.int .i64 0] (m * 1) = iarr m fun _ => 0:=by
 apply Array.ext
 ·simp [madeCells,iarr]
 ·intro j h1 h2
  have : j % 1 = 0:=by omega
  simp only [madeCells,iarr,Array.getElem_map,Array.getElem_range,Array.getElem_ofFn]
  simp [this]
attribute [irreducible] iarr
theorem info3 : (Try.prog.info? 3).map (fun i => (i.zero,i.size,i.bytes)) = some (some (.int .i64 0),1,8):=by kernel_rfl
theorem make_ints (n : Nat) (hn : n ≤ 14) (w : World) : (Instr.makeSlice 29 (.int .i64 (n : Int)) (.int .i64 (n : Int))).run Try.prog w = .ok (.slice (some ⟨w.heap.size,0,none⟩) n n) (w.alloc (.cells (iarr n fun _ => 0) 3)):=by
 obtain ⟨i0,hi,hz0,hz1,hz2⟩:=info_parts info3
 have h:=run_make_n (P:=Try.prog) 29 3 i0 _ Try.underlying29 hi hz0 n (by rw [hz2]; omega) (by omega) w
 rw [h]
 have e : madeCells (Value.cells (.int .i64 0)) (n * i0.size) = iarr n fun _ => 0:=by rw [hz1]; exact iarr_made n
 rw [e]
/-- What follows a statement that ends normally. -/
def OnlyN (K : Act → World → Prop) : Exit → Act → World → Prop
 | .normal,a,w => K a w
 | _,_,_ => False
theorem wp_only {P : Program} {s : Code} {K : Act → World → Prop} {Q' : Exit → Act → World → Prop} {a : Act} {w : World} (h : s.wp P (OnlyN K) a w) : s.wp P (Exit.then K Q') a w:=by
 refine wp_mono h ?_
 intro e a' w' hq
 cases e with
 | normal => exact hq
 | _ => exact hq.elim
theorem oper_wp_val {P : Program} {o : Oper} {a : Act} {w : World} {v : Value} {K : Act → World → Prop} {Q : Exit → Act → World → Prop} (hr : (execOp a.eval o).run P w = .ok (.value v) w) (h : K (a.put o.dst v) w) : o.wp P a w K Q:=by
 unfold Oper.wp
 rw [hr]
 exact h
theorem step_load {A : List Nat} {P : Program} {ops : Array Oper} {tab : List (Nat × Nat)} {a : Act} {vs : Nat → Value} {w1 : World} {k : Nat} {R : (Nat → Value) → World → Prop} {o : Oper} {d : Nat} (v : Value)
  (ho : ops[k]? = some o) (hd : o.dst = some d) (hA : A.contains k = false) (hds : d < a.tmps.size) (hr : (execOp (Act.eval { tmps:=RegRel.fillT tab vs a.tmps,defers:=a.defers }) o).run P w1 = .ok (.value v) w1) (hR : R (RegRel.upd vs k v) w1) : RegRel.StepA A P ops tab a vs w1 (k,R):=by
 refine ⟨o,d,ho,hd,oper_wp_val hr ?_⟩
 have e : (Act.put { tmps:=RegRel.fillT tab vs a.tmps,defers:=a.defers } o.dst v).tmps.getD d undef = v:=by
  rw [hd]; simp [Act.put,RegRel.fillT_size,hds]
 refine ⟨?_,Below.refl _ _,?_,fun h => ?_⟩
 ·show R (RegRel.upd vs k _) w1
  rw [e]; exact hR
 ·rw [hd]; rfl
 ·have : A.contains k = true:=h
  rw [hA] at this; cases this
theorem max_if (a b : Int) : (if a < b then b else a) = max a b:=by split <;> omega
theorem onlyN_go {K : Act → World → Prop} {a : Act} {w : World} (h : K a w) : OnlyN K .normal a w:=h
theorem Bx.ne {W : World} {a b t u : Nat} {cs ds : Array Value} (h : Bx W a t cs) (k : Bx W b u ds) (hn : t ≠ u) : a ≠ b:=by
 intro e
 subst e
 unfold Bx at h k
 rw [h] at k
 injection k with k
 injection k with k1 k2
 exact hn k2
/-- The widest of an event's nets over some of its zeros. -/
def wideOf (T1 T2 : Nat → Int × Int) (e : Nat) (z : Int) : Int:=((T1 (ix e z)).2 + (T2 (ix e z)).2) - ((T1 (ix e z)).1 + (T2 (ix e z)).1)
def widest (T1 T2 : Nat → Int × Int) (e : Nat) (zs : List Int) : Int:=zs.foldl (fun m z => max m (wideOf T1 T2 e z)) 0
theorem widest_snoc (T1 T2 : Nat → Int × Int) (e : Nat) (zs : List Int) (z : Int) : widest T1 T2 e (zs ++ [z]) = max (widest T1 T2 e zs) (wideOf T1 T2 e z):=by simp [widest]
def wfull (T1 T2 f : Nat → Int × Int) (e : Nat) : Int:=widest T1 T2 e (rngL (f e).1 (f e).2)
def Lw (T1 T2 f : Nat → Int × Int) (j : Nat) : Nat → Int:=fun k => if k < j then wfull T1 T2 f k else 0
def Lst (T1 T2 f : Nat → Int × Int) (j : Nat) (zs : List Int) : Nat → Int:=fun k => if k < j then wfull T1 T2 f k else if k = j then widest T1 T2 j zs else 0
theorem Lst_nil (T1 T2 f : Nat → Int × Int) (j : Nat) : Lst T1 T2 f j [] = Lw T1 T2 f j:=by
 funext k
 unfold Lst Lw
 split
 ·rfl
 ·split <;> rfl
theorem Lst_end (T1 T2 f : Nat → Int × Int) (j : Nat) : Lst T1 T2 f j (rngL (f j).1 (f j).2) = Lw T1 T2 f (j + 1):=by
 funext k
 unfold Lst Lw wfull
 by_cases h : k < j
 ·rw [if_pos h,if_pos (by omega)]
 ·rw [if_neg h]
  by_cases e : k = j
  ·subst e; rw [if_pos rfl,if_pos (by omega)]
  ·rw [if_neg e,if_neg (by omega)]
theorem Lst_self (T1 T2 f : Nat → Int × Int) (j : Nat) (zs : List Int) : Lst T1 T2 f j zs j = widest T1 T2 j zs:=by unfold Lst; rw [if_neg (by omega),if_pos rfl]
theorem Lst_step (T1 T2 f : Nat → Int × Int) (j : Nat) (zs : List Int) (z : Int) : (fun k => if k = j then max (Lst T1 T2 f j zs j) (wideOf T1 T2 j z) else Lst T1 T2 f j zs k) = Lst T1 T2 f j (zs ++ [z]):=by
 funext k
 rw [Lst_self]
 by_cases e : k = j
 ·subst e; rw [if_pos rfl,Lst_self,widest_snoc]
 ·rw [if_neg e]
  unfold Lst
  split
  ·rfl
  ·simp [e]
/-- Between two rounds of widths' loop: j events are done. -/
def WiInv (x0 x1 x2 wv : Value) (A : Option Addr) (n c : Nat) (Z : Array Value) (f T1 T2 : Nat → Int × Int) (w : World) (b g3 g7 g8 g9 gL : Nat) (a : Act) (W : World) : Prop :=
 ∃ (j : Nat) (ds : List Deferred) (u10 u29 u30 u31 u32 u33 u34 u61 : Value),j ≤ n ∧ a = { tmps:=#[.agg #[x0,x1,x2,.slice A n c],.agg Z,wv,.pointer (some ⟨b,0,none⟩),.pointer (some ⟨b + 1,0,none⟩),undef,.slice none 0 0,.pointer (some ⟨g8,0,none⟩),.pointer (some ⟨g9,0,none⟩),.pointer (some ⟨gL + 1,0,none⟩),u10,undef,undef,.agg #[x0,x1,x2,.slice A n c],.agg Z,wv,.slice (some ⟨g3,0,none⟩) n n,.agg #[x0,x1,x2,.slice A n c],.agg Z,wv,.slice (some ⟨g7,0,none⟩) n n,.pointer (some ⟨b,3,none⟩),.slice A n c,.int .i64 n,.slice (some ⟨gL,0,none⟩) n n,.pointer (some ⟨b,3,none⟩),.slice A n c,.int .i64 n,.int .i64 j,u29,u30,u31,u32,u33,u34,undef,undef,undef,undef,undef,undef,undef,undef,undef,undef,undef,undef,undef,undef,undef,undef,undef,undef,undef,undef,undef,undef,undef,undef,undef,undef,u61,undef],defers:=ds } ∧ Marks b W ds ∧ Bx W gL 3 (iarr n (Lw T1 T2 f j)) ∧ Bx W (gL + 1) 29 #[.slice (some ⟨gL,0,none⟩) n n] ∧ Bx W (g8) 128 #[.slice (some ⟨g3,0,none⟩) n n] ∧ Bx W (g9) 128 #[.slice (some ⟨g7,0,none⟩) n n] ∧ Bx W (g3) 135 (parr (n * 401) T1) ∧ Bx W (g7) 135 (parr (n * 401) T2) ∧ Bx W (b) 26 #[x0,x1,x2,.slice A n c] ∧ Bx W (b + 1) 91 Z ∧ Below b w W
def wiLeft (n : Nat) (a : Act) (_ : World) : Nat:=match a.tmps[28]? with
 | some (Value.int _ i) => ((n : Int) - i).toNat
 | _ => 0
set_option maxRecDepth 100000 in
set_option maxHeartbeats 8000000 in
theorem widths_any (x0 x1 x2 wv : Value) (A : Option Addr) (n c : Nat) (f T1 T2 : Nat → Int × Int) (w : World) (hn : 1 ≤ n) (hn2 : n ≤ 14)
  (hf : ∀ i,i < n → -200 ≤ (f i).1 ∧ (f i).1 ≤ 200 ∧ -200 ≤ (f i).2 ∧ (f i).2 ≤ 200) (hT1 : RowBd 2000000000 T1) (hT2 : RowBd 2000000000 T2)
  (h103 : ∀ W,Below w.heap.size w W → Calls Try.prog 103 #[.agg #[x0,x1,x2,.slice A n c],.agg (zarr f),wv] W fun e W' => (∃ tb,e = .returned (.slice (some ⟨tb,0,none⟩) n n) ∧ W.heap.size ≤ tb ∧ Bx W' tb 135 (parr (n * 401) T1)) ∧ Below W.heap.size W W')
  (h92 : ∀ W,Below w.heap.size w W → Calls Try.prog 92 #[.agg #[x0,x1,x2,.slice A n c],.agg (zarr f),wv] W fun e W' => (∃ tb,e = .returned (.slice (some ⟨tb,0,none⟩) n n) ∧ W.heap.size ≤ tb ∧ Bx W' tb 135 (parr (n * 401) T2)) ∧ Below W.heap.size W W') :
  Calls Try.prog 82 #[.agg #[x0,x1,x2,.slice A n c],.agg (zarr f),wv] w fun e W' => (∃ tb,e = .returned (.slice (some ⟨tb,0,none⟩) n n) ∧ w.heap.size ≤ tb ∧ Bx W' tb 3 (iarr n (Lw T1 T2 f n))) ∧ Below w.heap.size w W':=by
 obtain ⟨Z,hZ⟩ : ∃ Z,zarr f = Z:=⟨_,rfl⟩
 rw [hZ] at h103 h92 ⊢
 have hZs : Z.size = 28:=by rw [← hZ]; exact zarr_size f
 have hZ1 : ∀ i,i < 14 → Z[i * 2]? = some (.int .i64 (f i).1):=fun i hi => by rw [← hZ]; exact zarr_fst f hi
 have hZ2 : ∀ i,i < 14 → Z[i * 2 + 1]? = some (.int .i64 (f i).2):=fun i hi => by rw [← hZ]; exact zarr_snd f hi
 have HZ1:=Lib.hid hZ1
 have HZ2:=Lib.hid hZ2
 clear hZ hZ1 hZ2
 have H103:=Lib.hid h103
 have H92:=Lib.hid h92
 have HF:=Lib.hid hf
 have HT1:=Lib.hid hT1
 have HT2:=Lib.hid hT2
 clear h103 h92 hf hT1 hT2
 refine (callsIn_wide (n:=9)).1 ?_
 refine callsIn_of_wp_marks Try.func82 rfl trivial ?_ rfl
 refine wpIn_wide.2 ?_
 simp only [Try.ntmps82,List.size_toArray,List.length_cons,List.length_nil,Nat.reduceAdd,Nat.reduceSub,Array.replicate_succ,Array.replicate_zero,List.push_toArray,List.append_toArray,List.nil_append,List.cons_append]
 go_upto_region 1 with fail
 have B3:=(Bx.new w 26 #[x0,x1,x2,.slice A n c]).alloc (.cells Z 91)
 have B4:=Bx.at (w.alloc (.cells #[x0,x1,x2,.slice A n c] 26)) 91 Z (n:=w.heap.size + 1) (by simp)
 have HB:=((Below.refl w.heap.size w).alloc (Nat.le_refl _) (.cells #[x0,x1,x2,.slice A n c] 26)).alloc (by simp) (.cells Z 91)
 obtain ⟨V,hV⟩ : ∃ V,(w.alloc (.cells #[x0,x1,x2,.slice A n c] 26)).alloc (.cells Z 91) = V:=⟨_,rfl⟩
 have hVs : V.heap.size = w.heap.size + 2:=by rw [← hV]; simp
 rw [hV] at B3 B4 HB ⊢
 clear hV
 obtain ⟨b,hbe⟩ : ∃ b,w.heap.size = b:=⟨_,rfl⟩
 rw [hbe] at B3 B4 HB hVs ⊢
 have HBE:=Lib.hid hbe
 clear hbe
 obtain ⟨l0,l1,l2,l3,lf,lz⟩:=B3.four
 refine wp_only ?_
 refine AnyG.start (fun w' : World => Below V.heap.size V w') (fun i => i != 10 && i != 11) (by kernel_rfl) ?_
 have hS : (fun w' : World => Below V.heap.size V w') (World.drew _):=(Below.refl _ _).drew
 refine AnyG.take (i:=0) (v:=?_) rfl (by kernel_rfl) (fun _ _ _ h => h) rfl ?_ hS ?_
 rotate_left
 ·(intro w' hSw; (try dsimp only at hSw); have l0:=cellC hSw l0; have l1:=cellC hSw l1; have l2:=cellC hSw l2; have l3:=cellC hSw l3; go_simp; try with_reducible rfl)
 try simp only [Act.put,Sp4,Sp5,Sp6]
 refine AnyG.take (i:=1) (v:=?_) rfl (by kernel_rfl) (fun _ _ _ h => h) rfl ?_ hS ?_
 rotate_left
 ·(intro w' hSw; (try dsimp only at hSw); refine run_load_bx 91 (.tmp 4) ?_ (b + 1) ?_ 91 Z _ (B4.call hSw) Try.underlying91 rfl (by rw [hZs]; kernel_rfl) <;> rfl)
 try simp only [Act.put,Sp4,Sp5,Sp6]
 refine AnyG.take (i:=2) (v:=?_) rfl (by kernel_rfl) (fun _ _ _ h => h) rfl ?_ hS ?_
 rotate_left
 ·(intro w' _; go_simp; try with_reducible rfl)
 try simp only [Act.put,Sp4,Sp5,Sp6]
 refine RegRel.AnyG.rel2 [8,9] [0,1,2] [10,11] [[],[],[],[],[],[],[],[3,4,5,6],[],[],[3,4,5,6,7,8,9],[3,4,5,6,7,8,9,10]] [(16,3),(17,4),(18,5),(19,6),(20,7),(7,8),(8,9)] [(3,fun vs w1 => ∃ g,vs 3 = .slice (some ⟨g,0,none⟩) n n ∧ V.heap.size ≤ g ∧ Bx w1 g 135 (parr (n * 401) T1)),(4,fun vs _ => vs 4 = .agg #[x0,x1,x2,.slice A n c]),(5,fun vs _ => vs 5 = .agg Z),(6,fun vs _ => vs 6 = wv),(7,fun vs w1 => ∃ g,vs 7 = .slice (some ⟨g,0,none⟩) n n ∧ V.heap.size ≤ g ∧ Bx w1 g 135 (parr (n * 401) T2)),(8,fun vs w1 => ∃ g,vs 8 = .pointer (some ⟨g,0,none⟩) ∧ V.heap.size ≤ g ∧ Bx w1 g 128 #[.slice none 0 0]),(9,fun vs w1 => ∃ g,vs 9 = .pointer (some ⟨g,0,none⟩) ∧ V.heap.size ≤ g ∧ Bx w1 g 128 #[.slice none 0 0])]
  (by kernel_rfl) (by kernel_rfl) (by kernel_rfl) (by kernel_rfl) (by decide) (by decide) (fun _ h => Below.trans ((Below.refl V.heap.size V).drew) h) ?hst ?hcg ?hstep ?hfin
 case hst => exact ⟨fun _ _ _ ⟨g,h1,h2,h3⟩ hb => ⟨g,h1,h2,h3.call hb⟩,fun _ _ _ h _ => h,fun _ _ _ h _ => h,fun _ _ _ h _ => h,fun _ _ _ ⟨g,h1,h2,h3⟩ hb => ⟨g,h1,h2,h3.call hb⟩,fun _ _ _ ⟨g,h1,h2,h3⟩ hb => ⟨g,h1,h2,h3.call hb⟩,fun _ _ _ ⟨g,h1,h2,h3⟩ hb => ⟨g,h1,h2,h3.call hb⟩,trivial⟩
 case hcg => exact ⟨fun _ _ _ he ⟨g,h1,h2⟩ => ⟨g,(he 3 (by simp)).trans h1,h2⟩,fun _ _ _ he h => (he 4 (by simp)).trans h,fun _ _ _ he h => (he 5 (by simp)).trans h,fun _ _ _ he h => (he 6 (by simp)).trans h,fun _ _ _ he ⟨g,h1,h2⟩ => ⟨g,(he 7 (by simp)).trans h1,h2⟩,fun _ _ _ he ⟨g,h1,h2⟩ => ⟨g,(he 8 (by simp)).trans h1,h2⟩,fun _ _ _ he ⟨g,h1,h2⟩ => ⟨g,(he 9 (by simp)).trans h1,h2⟩,trivial⟩
 case hstep =>
  refine ⟨?_,?_,?_,?_,?_,?_,?_,trivial⟩
  ·rintro vs v1 - hv
   refine ⟨_,_,rfl,rfl,?_⟩
   clear hS
   simp only [RegRel.fillT,List.foldl_cons,List.foldl_nil,Sp4,Sp5,Sp6]
   have hBv : Below w.heap.size w v1:=by rw [HBE.out]; exact HB.trans ((((Below.refl V.heap.size V).drew).trans hv).mono (by omega))
   go_simp
   refine (H103.out _ hBv).mono ?_
   rintro rr v2 ⟨⟨tb,rfl,htb,hbx⟩,hb2⟩
   have hva : V.heap.size ≤ v1.heap.size:=hv.size
   refine ⟨⟨tb,rfl,?_,hbx⟩,hb2⟩
   omega
  ·rintro vs v1 - hv
   refine ⟨_,_,rfl,rfl,?_⟩
   clear hS
   simp only [RegRel.fillT,List.foldl_cons,List.foldl_nil,Sp4,Sp5,Sp6]
   have l0:=cellC (W:=V.drew) hv l0
   have l1:=cellC (W:=V.drew) hv l1
   have l2:=cellC (W:=V.drew) hv l2
   have l3:=cellC (W:=V.drew) hv l3
   go_simp
   first | exact ⟨rfl,Below.refl _ _,rfl,fun h => absurd h (by decide)⟩ | exact ⟨rfl,Below.refl _ _,fun h => absurd h (by decide)⟩ | exact ⟨rfl,Below.refl _ _,rfl⟩ | exact ⟨rfl,Below.refl _ _⟩ | exact Below.refl _ _ | trace_state
  ·rintro vs v1 - hv
   refine step_load (.agg Z) (d:=18) rfl rfl rfl (Nat.lt_of_lt_of_le (by decide : 18 < 63) (Nat.le_of_eq rfl)) ?_ rfl
   refine run_load_bx 91 (.tmp 4) ?_ (b + 1) ?_ 91 Z _ (B4.drew.call hv) Try.underlying91 rfl (by rw [hZs]; kernel_rfl)
   ·rfl
   ·simp only [RegRel.fillT,List.foldl_cons,List.foldl_nil,Sp4,Sp5,Sp6]
    go_simp
  ·rintro vs v1 - hv
   refine ⟨_,_,rfl,rfl,?_⟩
   clear hS
   simp only [RegRel.fillT,List.foldl_cons,List.foldl_nil,Sp4,Sp5,Sp6]
   go_simp
   first | exact ⟨rfl,Below.refl _ _,rfl,fun h => absurd h (by decide)⟩ | exact ⟨rfl,Below.refl _ _,fun h => absurd h (by decide)⟩ | exact ⟨rfl,Below.refl _ _,rfl⟩ | exact ⟨rfl,Below.refl _ _⟩ | exact Below.refl _ _ | trace_state
  ·rintro vs v1 ⟨⟨g3,h3,hg3,hx3⟩,h4,h5,h6,-⟩ hv
   refine ⟨_,_,rfl,rfl,?_⟩
   clear hS
   try dsimp only at h3 h4 h5 h6
   simp only [RegRel.fillT,List.foldl_cons,List.foldl_nil,Sp4,Sp5,Sp6]
   simp only [h4,h5,h6]
   clear h3 h4 h5 h6
   have hBv : Below w.heap.size w v1:=by rw [HBE.out]; exact HB.trans ((((Below.refl V.heap.size V).drew).trans hv).mono (by omega))
   go_simp
   refine (H92.out _ hBv).mono ?_
   rintro rr v2 ⟨⟨tb,rfl,htb,hbx⟩,hb2⟩
   have hva : V.heap.size ≤ v1.heap.size:=hv.size
   refine ⟨⟨tb,rfl,?_,hbx⟩,hb2⟩
   omega
  ·rintro vs v1 - hv
   refine ⟨_,_,rfl,rfl,?_⟩
   clear hS
   simp only [RegRel.fillT,List.foldl_cons,List.foldl_nil,Sp4,Sp5,Sp6]
   go_simp
   have hva : V.heap.size ≤ v1.heap.size:=hv.size
   refine ⟨⟨_,rfl,?_,Bx.new _ _ _⟩,(Below.refl _ _).alloc (Nat.le_refl _) _⟩
   omega
  ·rintro vs v1 - hv
   refine ⟨_,_,rfl,rfl,?_⟩
   clear hS
   simp only [RegRel.fillT,List.foldl_cons,List.foldl_nil,Sp4,Sp5,Sp6]
   go_simp
   have hva : V.heap.size ≤ v1.heap.size:=hv.size
   refine ⟨⟨_,rfl,?_,Bx.new _ _ _⟩,(Below.refl _ _).alloc (Nat.le_refl _) _⟩
   omega
 case hfin =>
  rintro vs v1 ⟨⟨g3,h3,hg3,hx3⟩,h4,h5,h6,⟨g7,h7,hg7,hx7⟩,⟨g8,h8,hg8,hx8⟩,⟨g9,h9,hg9,hx9⟩,-⟩ hv hdist
  clear hS
  try dsimp only at h3 h4 h5 h6 h7 h8 h9
  have hne8_9 : g8 ≠ g9:=fun e => hdist 8 (by simp) 9 (by simp) (by decide) (by rw [h8,h9,e])
  clear hdist
  simp only [List.filter_cons,List.contains_cons,List.contains_nil,Nat.reduceBEq,Bool.or_false,Bool.not_false,if_true,List.filter_nil]
  simp only [RegRel.fillT,List.foldl_cons,List.foldl_nil,Sp4,Sp5,Sp6]
  simp only [h3,h4,h5,h6,h7,h8,h9]
  clear h3 h4 h5 h6 h7 h8 h9
  have hvW : Below V.heap.size V v1:=((Below.refl V.heap.size V).drew).trans hv
  have n1:=hx3.ne hx8 (by decide)
  have n2:=hx3.ne hx9 (by decide)
  have n3:=hx7.ne hx8 (by decide)
  have n4:=hx7.ne hx9 (by decide)
  obtain ⟨a0,af,az⟩:=hx8.one
  obtain ⟨b0,bf,bz⟩:=hx9.one
  refine RegRel.wpOps_go rfl rfl ?_
  go_simp
  refine RegRel.wpOps_go rfl rfl ?_
  go_simp
  refine RegRel.wpOps_end (onlyN_go ?_)
  have C8:=(hx8.set_ 0 (.slice (some ⟨g3,0,none⟩) n n)).far (p:=⟨g9,0,none⟩) (by simp <;> omega) (.slice (some ⟨g7,0,none⟩) n n)
  have C9:=(hx9.far (p:=⟨g8,0,none⟩) (by simp <;> omega) (.slice (some ⟨g3,0,none⟩) n n)).set_ 0 (.slice (some ⟨g7,0,none⟩) n n)
  have CT1:=(hx3.far (p:=⟨g8,0,none⟩) (by simp <;> omega) (.slice (some ⟨g3,0,none⟩) n n)).far (p:=⟨g9,0,none⟩) (by simp <;> omega) (.slice (some ⟨g7,0,none⟩) n n)
  have CT2:=(hx7.far (p:=⟨g8,0,none⟩) (by simp <;> omega) (.slice (some ⟨g3,0,none⟩) n n)).far (p:=⟨g9,0,none⟩) (by simp <;> omega) (.slice (some ⟨g7,0,none⟩) n n)
  have C3:=((B3.call hvW).far (p:=⟨g8,0,none⟩) (by simp <;> omega) (.slice (some ⟨g3,0,none⟩) n n)).far (p:=⟨g9,0,none⟩) (by simp <;> omega) (.slice (some ⟨g7,0,none⟩) n n)
  have C4:=((B4.call hvW).far (p:=⟨g8,0,none⟩) (by simp <;> omega) (.slice (some ⟨g3,0,none⟩) n n)).far (p:=⟨g9,0,none⟩) (by simp <;> omega) (.slice (some ⟨g7,0,none⟩) n n)
  have CB:=((HB.trans (hvW.mono (by omega))).setCell (p:=⟨g8,0,none⟩) (by simp <;> omega) (.slice (some ⟨g3,0,none⟩) n n)).setCell (p:=⟨g9,0,none⟩) (by simp <;> omega) (.slice (some ⟨g7,0,none⟩) n n)
  obtain ⟨U,hU⟩ : ∃ U,(v1.setCell ⟨g8,0,none⟩ (.slice (some ⟨g3,0,none⟩) n n)).setCell ⟨g9,0,none⟩ (.slice (some ⟨g7,0,none⟩) n n) = U:=⟨_,rfl⟩
  rw [hU] at C8 C9 CT1 CT2 C3 C4 CB ⊢
  clear hU hx3 hx7 hx8 hx9 hv hvW B3 B4 HB l0 l1 l2 l3 lf lz a0 af az b0 bf bz n1 n2 n3 n4
  obtain ⟨l0,l1,l2,l3,lf,lz⟩:=C3.four
  have hmk:=make_ints n hn2
  go_wp2_with fail
  have E1:=Bx.at (U.alloc (.cells (iarr n fun x => 0) 3)) 29 #[.slice (some ⟨U.heap.size,0,none⟩) n n] (n:=U.heap.size + 1) (by simp)
  have EL:=(Bx.new U 3 (iarr n fun x => 0)).alloc (.cells #[.slice (some ⟨U.heap.size,0,none⟩) n n] 29)
  have hL0 : Lw T1 T2 f 0 = fun x => 0:=by funext k; unfold Lw; rw [if_neg (by omega)]
  have q8:=C8.lt
  have q9:=C9.lt
  have q3:=CT1.lt
  have q7:=CT2.lt
  have qb:=C4.lt
  have E8:=(C8.alloc (.cells (iarr n fun x => 0) 3)).alloc (.cells #[.slice (some ⟨U.heap.size,0,none⟩) n n] 29)
  have E9:=(C9.alloc (.cells (iarr n fun x => 0) 3)).alloc (.cells #[.slice (some ⟨U.heap.size,0,none⟩) n n] 29)
  have E3:=(CT1.alloc (.cells (iarr n fun x => 0) 3)).alloc (.cells #[.slice (some ⟨U.heap.size,0,none⟩) n n] 29)
  have E7:=(CT2.alloc (.cells (iarr n fun x => 0) 3)).alloc (.cells #[.slice (some ⟨U.heap.size,0,none⟩) n n] 29)
  have EB:=(C3.alloc (.cells (iarr n fun x => 0) 3)).alloc (.cells #[.slice (some ⟨U.heap.size,0,none⟩) n n] 29)
  have EZ:=(C4.alloc (.cells (iarr n fun x => 0) 3)).alloc (.cells #[.slice (some ⟨U.heap.size,0,none⟩) n n] 29)
  have EW:=(CB.alloc (by omega) (.cells (iarr n fun x => 0) 3)).alloc (by simp; omega) (.cells #[.slice (some ⟨U.heap.size,0,none⟩) n n] 29)
  obtain ⟨Y,hY⟩ : ∃ Y,(U.alloc (.cells (iarr n fun x => 0) 3)).alloc (.cells #[.slice (some ⟨U.heap.size,0,none⟩) n n] 29) = Y:=⟨_,rfl⟩
  rw [hY] at E1 EL E8 E9 E3 E7 EB EZ EW ⊢
  obtain ⟨gL,hgL⟩ : ∃ gL,U.heap.size = gL:=⟨_,rfl⟩
  rw [hgL] at E1 EL q8 q9 q3 q7 qb ⊢
  rw [← hL0] at EL
  clear hY hgL hL0 C8 C9 CT1 CT2 C3 C4 CB l0 l1 l2 l3 lf lz hmk
  refine wp_loop (WiInv x0 x1 x2 wv A n c Z f T1 T2 w b g3 g7 g8 g9 gL) (wiLeft n) ?h0 ?round
  case h0 => exact ⟨0,[],undef,undef,undef,undef,undef,undef,undef,undef,by omega,rfl,Marks.nil _ _,EL,E1,E8,E9,E3,E7,EB,EZ,EW⟩
  case round =>
   clear E1 EL E8 E9 E3 E7 EB EZ EW
   rintro a W ⟨j,ds,u10,u29,u30,u31,u32,u33,u34,u61,hj,rfl,hM,BL,B1,B8,B9,B3,B7,BB,BZ,hB⟩
   by_cases hjn : j < n
   ·have hj1 : (j : Int) < (n : Int):=by omega
    have he0 : (0 : Int) ≤ (j : Int):=by omega
    have he1 : (j : Int) < 14:=by omega
    have hf1:=HF.out j hjn
    have c0:=((BZ.alloc (.cells #[.int .i64 j] 3)).cell (j * 2)).trans (HZ1.out j (by omega))
    have c1:=((BZ.alloc (.cells #[.int .i64 j] 3)).cell (j * 2 + 1)).trans (HZ2.out j (by omega))
    obtain ⟨k0,hk0⟩ : ∃ k0,(f j).1 = k0:=⟨_,rfl⟩
    obtain ⟨k1,hk1⟩ : ∃ k1,(f j).2 = k1:=⟨_,rfl⟩
    rw [hk0] at c0 hf1
    rw [hk1] at c1 hf1
    have HK0:=Lib.hid hk0
    have HK1:=Lib.hid hk1
    clear hk0 hk1
    obtain ⟨f1,f2,f3,f4⟩:=hf1
    go_wp2_with (go_at_call 94; refine (numbers_any _ _ _).mono ?_; rintro e3 w3 ⟨rfl,rfl⟩)
    have hLW:=BL.lt
    have h1W:=B1.lt
    have CI:=Bx.at (W.alloc (.cells #[.int .i64 j] 3)) 23 #[.int .i64 k0,.int .i64 k1] (n:=W.heap.size + 1) (by simp)
    have CJ:=(Bx.new W 3 #[.int .i64 (j : Int)]).alloc (.cells #[.int .i64 k0,.int .i64 k1] 23)
    have CL:=(BL.alloc (.cells #[.int .i64 j] 3)).alloc (.cells #[.int .i64 k0,.int .i64 k1] 23)
    have C1:=(B1.alloc (.cells #[.int .i64 j] 3)).alloc (.cells #[.int .i64 k0,.int .i64 k1] 23)
    have C8:=(B8.alloc (.cells #[.int .i64 j] 3)).alloc (.cells #[.int .i64 k0,.int .i64 k1] 23)
    have C9:=(B9.alloc (.cells #[.int .i64 j] 3)).alloc (.cells #[.int .i64 k0,.int .i64 k1] 23)
    have C3:=(B3.alloc (.cells #[.int .i64 j] 3)).alloc (.cells #[.int .i64 k0,.int .i64 k1] 23)
    have C7:=(B7.alloc (.cells #[.int .i64 j] 3)).alloc (.cells #[.int .i64 k0,.int .i64 k1] 23)
    have CB:=(BB.alloc (.cells #[.int .i64 j] 3)).alloc (.cells #[.int .i64 k0,.int .i64 k1] 23)
    have CZ:=(BZ.alloc (.cells #[.int .i64 j] 3)).alloc (.cells #[.int .i64 k0,.int .i64 k1] 23)
    have CM : Marks b ((W.alloc (.cells #[.int .i64 j] 3)).alloc (.cells #[.int .i64 k0,.int .i64 k1] 23)) ds:=hM.call (((Below.refl _ _).alloc (Nat.le_refl _) _).alloc (by simp) _)
    have hMlt:=hM.lt
    have CW:=(hB.alloc (by omega) (.cells #[.int .i64 j] 3)).alloc (by simp; omega) (.cells #[.int .i64 k0,.int .i64 k1] 23)
    obtain ⟨gj,hgj⟩ : ∃ gj,W.heap.size = gj:=⟨_,rfl⟩
    obtain ⟨W0,hW0⟩ : ∃ W0,(W.alloc (.cells #[.int .i64 j] 3)).alloc (.cells #[.int .i64 k0,.int .i64 k1] 23) = W0:=⟨_,rfl⟩
    have d5 : W0.heap.size = gj + 2:=by rw [← hW0,← hgj]; simp
    rw [hW0] at CI CJ CL C1 C8 C9 C3 C7 CB CZ CM CW ⊢
    rw [hgj] at CI CJ hMlt hLW h1W ⊢
    rw [← Lst_nil T1 T2 f j] at CL
    clear BL B1 B8 B9 B3 B7 BB BZ hM hB c0 c1 hW0 hgj
    refine (wpIn_wide (n:=9)).1 ?_
    refine wpIn_rangeFunc_ownH (F:=Fence.wide) rfl (by omega) (gf:=105) (lb:=#[.pointer (some ⟨gj + 1,0,none⟩)]) rfl trivial (enters_of Try.func105 (by kernel_rfl) rfl)
     (numbers1_stops Fence.wide (9 - 1) trivial rfl (by omega) (gj + 1) k0 k1 (by omega) (by omega) (by omega) (by omega) W0 CI) (fun h k => sameBox_t h k) (sameBox_b CI.lt) (Below.refl _ _) (fun _ => rfl)
     (fun pre V => (((((((((((Bx V gL 3 (iarr n (Lst T1 T2 f j (pre.map (·.1)))) ∧ Bx V (gL + 1) 29 #[.slice (some ⟨gL,0,none⟩) n n]) ∧ Bx V (g8) 128 #[.slice (some ⟨g3,0,none⟩) n n]) ∧ Bx V (g9) 128 #[.slice (some ⟨g7,0,none⟩) n n]) ∧ Bx V (g3) 135 (parr (n * 401) T1)) ∧ Bx V (g7) 135 (parr (n * 401) T2)) ∧ Bx V (b) 26 #[x0,x1,x2,.slice A n c]) ∧ Bx V (b + 1) 91 Z) ∧ Bx V gj 3 #[.int .i64 j]) ∧ Bx V (gj + 1) 23 #[.int .i64 k0,.int .i64 k1]) ∧ Marks b V ds) ∧ Below b w V))
     (fun _ _ _ => False)
     (OwnFrom.and (OwnFrom.and (OwnFrom.and (OwnFrom.and (OwnFrom.and (OwnFrom.and (OwnFrom.and (OwnFrom.and (OwnFrom.and (OwnFrom.and (OwnFrom.and (Own.from (bx_own _ _ _) _) (Own.from (bx_own _ _ _) _)) (Own.from (bx_own _ _ _) _)) (Own.from (bx_own _ _ _) _)) (Own.from (bx_own _ _ _) _)) (Own.from (bx_own _ _ _) _)) (Own.from (bx_own _ _ _) _)) (Own.from (bx_own _ _ _) _)) (Own.from (bx_own _ _ _) _)) (Own.from (bx_own _ _ _) _)) (marks_ownFrom (fun d hd D he => by have:=hMlt d hd D he; omega))) (ownFrom_below (by rw [← HBE.out]; exact Nat.le_refl _) (by omega)))
     (fun _ _ _ _ _ hs _ _ => hs)
     ⟨⟨⟨⟨⟨⟨⟨⟨⟨⟨⟨CL,C1⟩,C8⟩,C9⟩,C3⟩,C7⟩,CB⟩,CZ⟩,CJ⟩,CI⟩,CM⟩,CW⟩
     (fun x a' _ => a' = { tmps:=#[.agg #[x0,x1,x2,.slice A n c],.agg Z,wv,.pointer (some ⟨b,0,none⟩),.pointer (some ⟨b + 1,0,none⟩),undef,.slice none 0 0,.pointer (some ⟨g8,0,none⟩),.pointer (some ⟨g9,0,none⟩),.pointer (some ⟨gL + 1,0,none⟩),.pointer (some ⟨gj,0,none⟩),.int .i64 x.1,undef,.agg #[x0,x1,x2,.slice A n c],.agg Z,wv,.slice (some ⟨g3,0,none⟩) n n,.agg #[x0,x1,x2,.slice A n c],.agg Z,wv,.slice (some ⟨g7,0,none⟩) n n,.pointer (some ⟨b,3,none⟩),.slice A n c,.int .i64 n,.slice (some ⟨gL,0,none⟩) n n,.pointer (some ⟨b,3,none⟩),.slice A n c,.int .i64 n,.int .i64 j,.bool true,.int .i64 j,.int .i64 j,.pointer (some ⟨b + 1,j * 2,none⟩),.agg #[.int .i64 k0,.int .i64 k1],.func (.func 105) #[] #[.pointer (some ⟨gj + 1,0,none⟩)],.int .i64 x.1,undef,undef,undef,undef,undef,undef,undef,undef,undef,undef,undef,undef,undef,undef,undef,undef,undef,undef,undef,undef,undef,undef,undef,undef,undef,u61,undef],defers:=[] })
     (fun _ _ _ _ _ _ hs _ _ => hs)
     ?assign ?body ?done ?stop
    case assign =>
     rintro l pre x V K hi hK
     gi_wp2
     exact hK _ _ (KeepsFrom.refl _ _) rfl hi rfl
    case body =>
     rintro l pre x a' V hl ⟨r,hr⟩ ⟨⟨⟨⟨⟨⟨⟨⟨⟨⟨⟨DL,D1⟩,D8⟩,D9⟩,D3⟩,D7⟩,DB⟩,DZ⟩,DJ⟩,DI⟩,DM⟩,DW⟩ rfl hlt
     have hx1:=x.2.1
     have hx2:=x.2.2
     obtain ⟨xx,hxx⟩ : ∃ xx,x.1 = xx:=⟨_,rfl⟩
     rw [hxx] at hx1 hx2 ⊢
     have HX:=Lib.hid hxx
     clear hxx hr
     have hbV0 : b ≤ V.heap.size:=by have:=DB.lt; omega
     have hLV:=DL.lt
     have hixx : ix j xx < n * 401:=ix_lt (by omega) (by omega) (by omega)
     obtain ⟨tb1,tb2,tb3,tb4⟩:=HT1.out (ix j xx)
     obtain ⟨wb1,wb2,wb3,wb4⟩:=HT2.out (ix j xx)
     obtain ⟨s0,sf,sz⟩:=DJ.one
     obtain ⟨a0,af,az⟩:=D8.one
     obtain ⟨b0,bf,bz⟩:=D9.one
     have hoff : (ix j xx) * 2 = j * 802 + (xx + 200).toNat * 2:=by unfold ix; omega
     have p0:=(D3.cell (j * 802 + (xx + 200).toNat * 2)).trans (parr_fst (n * 401) T1 hixx hoff.symm)
     have p1:=(D3.cell (j * 802 + (xx + 200).toNat * 2 + 1)).trans (parr_snd (n * 401) T1 hixx (by omega))
     have r0:=(D7.cell (j * 802 + (xx + 200).toNat * 2)).trans (parr_fst (n * 401) T2 hixx hoff.symm)
     have r1:=(D7.cell (j * 802 + (xx + 200).toNat * 2 + 1)).trans (parr_snd (n * 401) T2 hixx (by omega))
     refine wpIn_block ?_
     gi_wp2_with fail
     refine AnyG.startIn (fun w' : World => Below V.heap.size V w') (fun i => i != 16) (by kernel_rfl) (by kernel_rfl) (fun _ _ h => h) ?_
     have hS : (fun w' : World => Below V.heap.size V w') (World.drew _):=(Below.refl _ _).drew
     refine AnyG.take (i:=0) (v:=?_) rfl (by kernel_rfl) (fun _ _ _ h => h) rfl ?_ hS ?_
     rotate_left
     ·(intro w' hSw; (try dsimp only at hSw); have a0:=cellC hSw a0; go_simp; try with_reducible rfl)
     try simp only [Act.put,Sp4,Sp5,Sp6]
     refine AnyG.take (i:=1) (v:=?_) rfl (by kernel_rfl) (fun _ _ _ h => h) rfl ?_ hS ?_
     rotate_left
     ·(intro w' hSw; (try dsimp only at hSw); have s0:=cellC hSw s0; go_simp; try with_reducible rfl)
     try simp only [Act.put,Sp4,Sp5,Sp6]
     refine AnyG.take (i:=2) (v:=?_) rfl (by kernel_rfl) (fun _ _ _ h => h) rfl ?_ hS ?_
     rotate_left
     ·(intro w' _; go_simp; try with_reducible rfl)
     try simp only [Act.put,Sp4,Sp5,Sp6]
     refine AnyG.take (i:=4) (v:=?_) rfl (by kernel_rfl) (fun _ _ _ h => h) rfl ?_ hS ?_
     rotate_left
     ·(intro w' _; go_simp; try with_reducible rfl)
     try simp only [Act.put,Sp4,Sp5,Sp6]
     refine AnyG.take (i:=7) (v:=?_) rfl (by kernel_rfl) (fun _ _ _ h => h) rfl ?_ hS ?_
     rotate_left
     ·(intro w' hSw; (try dsimp only at hSw); have b0:=cellC hSw b0; go_simp; try with_reducible rfl)
     try simp only [Act.put,Sp4,Sp5,Sp6]
     refine AnyG.take (i:=8) (v:=?_) rfl (by kernel_rfl) (fun _ _ _ h => h) rfl ?_ hS ?_
     rotate_left
     ·(intro w' hSw; (try dsimp only at hSw); have s0:=cellC hSw s0; go_simp; try with_reducible rfl)
     try simp only [Act.put,Sp4,Sp5,Sp6]
     refine AnyG.take (i:=9) (v:=?_) rfl (by kernel_rfl) (fun _ _ _ h => h) rfl ?_ hS ?_
     rotate_left
     ·(intro w' _; go_simp; try with_reducible rfl)
     try simp only [Act.put,Sp4,Sp5,Sp6]
     refine AnyG.take (i:=11) (v:=?_) rfl (by kernel_rfl) (fun _ _ _ h => h) rfl ?_ hS ?_
     rotate_left
     ·(intro w' _; go_simp; try with_reducible rfl)
     try simp only [Act.put,Sp4,Sp5,Sp6]
     refine RegRel.AnyG.rel [0,1,2,4,7,8,9,11] [16] [[],[],[],[],[],[3],[3,5],[],[],[],[3],[],[3,10],[3,10,12],[3,5,6,10,12,13],[],[3,5,6,10,12,13,14,15]] [(39,3),(41,5),(42,6),(46,10),(48,12),(49,13),(50,14),(12,15)] [(3,fun vs _ => vs 3 = .int .i64 (xx + 200)),(5,fun vs _ => vs 5 = .pointer (some ⟨g3,j * 802 + (xx + 200).toNat * 2,none⟩)),(6,fun vs _ => vs 6 = .agg #[.int .i64 (T1 (ix j xx)).1,.int .i64 (T1 (ix j xx)).2]),(10,fun vs _ => vs 10 = .int .i64 (xx + 200)),(12,fun vs _ => vs 12 = .pointer (some ⟨g7,j * 802 + (xx + 200).toNat * 2,none⟩)),(13,fun vs _ => vs 13 = .agg #[.int .i64 (T2 (ix j xx)).1,.int .i64 (T2 (ix j xx)).2]),(14,fun vs _ => vs 14 = .agg #[.int .i64 ((T1 (ix j xx)).1 + (T2 (ix j xx)).1),.int .i64 ((T1 (ix j xx)).2 + (T2 (ix j xx)).2)]),(15,fun vs w1 => ∃ g,vs 15 = .pointer (some ⟨g,0,none⟩) ∧ V.heap.size ≤ g ∧ Bx w1 g 23 #[.int .i64 0,.int .i64 0])]
      (by kernel_rfl) (by kernel_rfl) (by kernel_rfl) (by decide) (by decide) (fun _ h => Below.trans ((Below.refl V.heap.size V).drew) h) ?hst ?hcg ?hstep ?hfin
     case hst => exact ⟨fun _ _ _ h _ => h,fun _ _ _ h _ => h,fun _ _ _ h _ => h,fun _ _ _ h _ => h,fun _ _ _ h _ => h,fun _ _ _ h _ => h,fun _ _ _ h _ => h,fun _ _ _ ⟨g,h1,h2,h3⟩ hb => ⟨g,h1,h2,h3.call hb⟩,trivial⟩
     case hcg => exact ⟨fun _ _ _ he h => (he 3 (by simp)).trans h,fun _ _ _ he h => (he 5 (by simp)).trans h,fun _ _ _ he h => (he 6 (by simp)).trans h,fun _ _ _ he h => (he 10 (by simp)).trans h,fun _ _ _ he h => (he 12 (by simp)).trans h,fun _ _ _ he h => (he 13 (by simp)).trans h,fun _ _ _ he h => (he 14 (by simp)).trans h,fun _ _ _ he ⟨g,h1,h2⟩ => ⟨g,(he 15 (by simp)).trans h1,h2⟩,trivial⟩
     case hstep =>
      refine ⟨?_,?_,?_,?_,?_,?_,?_,?_,trivial⟩
      ·rintro vs v1 - hv
       refine ⟨_,_,rfl,rfl,?_⟩
       clear hS
       simp only [RegRel.fillT,List.foldl_cons,List.foldl_nil,Sp4,Sp5,Sp6]
       go_simp
       refine (place_any xx _ (by omega) (by omega)).mono ?_
       rintro rr v2 ⟨rfl,rfl⟩
       first | exact ⟨rfl,Below.refl _ _,rfl,fun h => absurd h (by decide)⟩ | exact ⟨rfl,Below.refl _ _,fun h => absurd h (by decide)⟩ | exact ⟨rfl,Below.refl _ _,rfl⟩ | exact ⟨rfl,Below.refl _ _⟩ | exact Below.refl _ _ | trace_state
      ·rintro vs v1 ⟨h3,-⟩ hv
       refine ⟨_,_,rfl,rfl,?_⟩
       clear hS
       try dsimp only at h3
       simp only [RegRel.fillT,List.foldl_cons,List.foldl_nil,Sp4,Sp5,Sp6]
       simp only [h3]
       clear h3
       have q1 : 0 ≤ xx + 200:=by omega
       have q2 : xx + 200 < 401:=by omega
       go_simp
       first | exact ⟨rfl,Below.refl _ _,rfl,fun h => absurd h (by decide)⟩ | exact ⟨rfl,Below.refl _ _,fun h => absurd h (by decide)⟩ | exact ⟨rfl,Below.refl _ _,rfl⟩ | exact ⟨rfl,Below.refl _ _⟩ | exact Below.refl _ _ | trace_state
      ·rintro vs v1 ⟨h3,h5,-⟩ hv
       refine ⟨_,_,rfl,rfl,?_⟩
       clear hS
       try dsimp only at h3 h5
       simp only [RegRel.fillT,List.foldl_cons,List.foldl_nil,Sp4,Sp5,Sp6]
       simp only [h5]
       clear h3 h5
       have p0:=cellC (W:=V.drew) hv p0
       have p1:=cellC (W:=V.drew) hv p1
       go_simp
       first | exact ⟨rfl,Below.refl _ _,rfl,fun h => absurd h (by decide)⟩ | exact ⟨rfl,Below.refl _ _,fun h => absurd h (by decide)⟩ | exact ⟨rfl,Below.refl _ _,rfl⟩ | exact ⟨rfl,Below.refl _ _⟩ | exact Below.refl _ _ | trace_state
      ·rintro vs v1 ⟨h3,-⟩ hv
       refine ⟨_,_,rfl,rfl,?_⟩
       clear hS
       try dsimp only at h3
       simp only [RegRel.fillT,List.foldl_cons,List.foldl_nil,Sp4,Sp5,Sp6]
       clear h3
       go_simp
       refine (place_any xx _ (by omega) (by omega)).mono ?_
       rintro rr v2 ⟨rfl,rfl⟩
       first | exact ⟨rfl,Below.refl _ _,rfl,fun h => absurd h (by decide)⟩ | exact ⟨rfl,Below.refl _ _,fun h => absurd h (by decide)⟩ | exact ⟨rfl,Below.refl _ _,rfl⟩ | exact ⟨rfl,Below.refl _ _⟩ | exact Below.refl _ _ | trace_state
      ·rintro vs v1 ⟨h3,h10,-⟩ hv
       refine ⟨_,_,rfl,rfl,?_⟩
       clear hS
       try dsimp only at h3 h10
       simp only [RegRel.fillT,List.foldl_cons,List.foldl_nil,Sp4,Sp5,Sp6]
       simp only [h10]
       clear h3 h10
       have q1 : 0 ≤ xx + 200:=by omega
       have q2 : xx + 200 < 401:=by omega
       go_simp
       first | exact ⟨rfl,Below.refl _ _,rfl,fun h => absurd h (by decide)⟩ | exact ⟨rfl,Below.refl _ _,fun h => absurd h (by decide)⟩ | exact ⟨rfl,Below.refl _ _,rfl⟩ | exact ⟨rfl,Below.refl _ _⟩ | exact Below.refl _ _ | trace_state
      ·rintro vs v1 ⟨h3,h10,h12,-⟩ hv
       refine ⟨_,_,rfl,rfl,?_⟩
       clear hS
       try dsimp only at h3 h10 h12
       simp only [RegRel.fillT,List.foldl_cons,List.foldl_nil,Sp4,Sp5,Sp6]
       simp only [h12]
       clear h3 h10 h12
       have r0:=cellC (W:=V.drew) hv r0
       have r1:=cellC (W:=V.drew) hv r1
       go_simp
       first | exact ⟨rfl,Below.refl _ _,rfl,fun h => absurd h (by decide)⟩ | exact ⟨rfl,Below.refl _ _,fun h => absurd h (by decide)⟩ | exact ⟨rfl,Below.refl _ _,rfl⟩ | exact ⟨rfl,Below.refl _ _⟩ | exact Below.refl _ _ | trace_state
      ·rintro vs v1 ⟨h3,h5,h6,h10,h12,h13,-⟩ hv
       refine ⟨_,_,rfl,rfl,?_⟩
       clear hS
       try dsimp only at h3 h5 h6 h10 h12 h13
       simp only [RegRel.fillT,List.foldl_cons,List.foldl_nil,Sp4,Sp5,Sp6]
       simp only [h6,h13]
       clear h3 h5 h6 h10 h12 h13
       go_simp
       refine (plus_any _ _ _ _ _ (by omega) (by omega) (by omega) (by omega) (by omega) (by omega) (by omega) (by omega)).mono ?_
       rintro rr v2 ⟨rfl,hb2⟩
       first | exact ⟨rfl,hb2,rfl,fun h => absurd h (by decide)⟩ | exact ⟨rfl,hb2,fun h => absurd h (by decide)⟩ | exact ⟨rfl,hb2,rfl⟩ | exact ⟨rfl,hb2⟩ | exact hb2 | trace_state
      ·rintro vs v1 - hv
       refine ⟨_,_,rfl,rfl,?_⟩
       clear hS
       simp only [RegRel.fillT,List.foldl_cons,List.foldl_nil,Sp4,Sp5,Sp6]
       go_simp
       have hva : V.heap.size ≤ v1.heap.size:=hv.size
       refine ⟨⟨_,rfl,?_,Bx.new _ _ _⟩,(Below.refl _ _).alloc (Nat.le_refl _) _⟩
       omega
     case hfin =>
      rintro vs v1 ⟨h3,h5,h6,h10,h12,h13,h14,⟨g15,h15,hg15,hx15⟩,-⟩ hv
      clear hS
      try dsimp only at h3 h5 h6 h10 h12 h13 h14 h15
      simp only [List.filter_cons,List.contains_cons,List.contains_nil,Nat.reduceBEq,Bool.or_false,Bool.not_false,if_true,List.filter_nil]
      simp only [RegRel.fillT,List.foldl_cons,List.foldl_nil,Sp4,Sp5,Sp6]
      simp only [h3,h5,h6,h10,h12,h13,h14,h15]
      clear h3 h5 h6 h10 h12 h13 h14 h15
      have hvW : Below V.heap.size V v1:=((Below.refl V.heap.size V).drew).trans hv
      obtain ⟨t0,t1,tf,tz⟩:=hx15.two
      refine RegRel.wpOps_go rfl rfl ?_
      go_simp
      refine RegRel.wpOps_end ?_
      clear t0 t1 tf tz s0 sf sz a0 af az b0 bf bz p0 p1 r0 r1
      have G0:=(hx15.set_ 0 (.int .i64 ((T1 (ix j xx)).1 + (T2 (ix j xx)).1))).set_ 1 (.int .i64 ((T1 (ix j xx)).2 + (T2 (ix j xx)).2))
      have UV : Below V.heap.size V ((v1.setCell ⟨g15,0,none⟩ (.int .i64 ((T1 (ix j xx)).1 + (T2 (ix j xx)).1))).setCell ⟨g15,1,none⟩ (.int .i64 ((T1 (ix j xx)).2 + (T2 (ix j xx)).2))):=(hvW.setCell (p:=⟨g15,0,none⟩) hg15 _).setCell (p:=⟨g15,1,none⟩) hg15 _
      obtain ⟨X,hX⟩ : ∃ X,((v1.setCell ⟨g15,0,none⟩ (.int .i64 ((T1 (ix j xx)).1 + (T2 (ix j xx)).1))).setCell ⟨g15,1,none⟩ (.int .i64 ((T1 (ix j xx)).2 + (T2 (ix j xx)).2))) = X:=⟨_,rfl⟩
      rw [hX] at G0 UV ⊢
      clear hX hx15 hvW hv
      obtain ⟨t0,t1,tf,tz⟩:=G0.two
      obtain ⟨s0,sf,sz⟩:=(DJ.call UV).one
      obtain ⟨z0,zf,zz⟩:=(D1.call UV).one
      have p0:=((DL.call UV).cell j).trans (iarr_get n _ hjn)
      rw [Lst_self] at p0
      have pf:=(DL.call UV).free
      have hXs:=UV.size
      gi_wp2_with fail
      refine AnyG.startIn (fun w' : World => Below X.heap.size X w') (fun i => i != 10) (by kernel_rfl) (by kernel_rfl) (fun _ _ h => h) ?_
      have hS : (fun w' : World => Below X.heap.size X w') (World.drew _):=(Below.refl _ _).drew
      refine AnyG.take (i:=0) (v:=?_) rfl (by kernel_rfl) (fun _ _ _ h => h) rfl ?_ hS ?_
      rotate_left
      ·(intro w' hSw; (try dsimp only at hSw); have z0:=cellC hSw z0; go_simp; try with_reducible rfl)
      try simp only [Act.put,Sp4,Sp5,Sp6]
      refine AnyG.take (i:=1) (v:=?_) rfl (by kernel_rfl) (fun _ _ _ h => h) rfl ?_ hS ?_
      rotate_left
      ·(intro w' hSw; (try dsimp only at hSw); have s0:=cellC hSw s0; go_simp; try with_reducible rfl)
      try simp only [Act.put,Sp4,Sp5,Sp6]
      refine AnyG.take (i:=2) (v:=?_) rfl (by kernel_rfl) (fun _ _ _ h => h) rfl ?_ hS ?_
      rotate_left
      ·(intro w' hSw; (try dsimp only at hSw); have z0:=cellC hSw z0; go_simp; try with_reducible rfl)
      try simp only [Act.put,Sp4,Sp5,Sp6]
      refine AnyG.take (i:=3) (v:=?_) rfl (by kernel_rfl) (fun _ _ _ h => h) rfl ?_ hS ?_
      rotate_left
      ·(intro w' hSw; (try dsimp only at hSw); have s0:=cellC hSw s0; go_simp; try with_reducible rfl)
      try simp only [Act.put,Sp4,Sp5,Sp6]
      refine AnyG.take (i:=4) (v:=?_) rfl (by kernel_rfl) (fun _ _ _ h => h) rfl ?_ hS ?_
      rotate_left
      ·(intro w' _; go_simp; try with_reducible rfl)
      try simp only [Act.put,Sp4,Sp5,Sp6]
      refine AnyG.take (i:=5) (v:=?_) rfl (by kernel_rfl) (fun _ _ _ h => h) rfl ?_ hS ?_
      rotate_left
      ·(intro w' hSw; (try dsimp only at hSw); have p0:=cellC hSw p0; go_simp; try with_reducible rfl)
      try simp only [Act.put,Sp4,Sp5,Sp6]
      refine AnyG.take (i:=6) (v:=?_) rfl (by kernel_rfl) (fun _ _ _ h => h) rfl ?_ hS ?_
      rotate_left
      ·(intro w' hSw; (try dsimp only at hSw); have t0:=cellC hSw t0; have t1:=cellC hSw t1; go_simp; try with_reducible rfl)
      try simp only [Act.put,Sp4,Sp5,Sp6]
      refine RegRel.AnyG.rel [0,1,2,3,4,5,6] [10] [[],[],[],[],[],[],[],[],[7],[7,8],[7,8,9]] [(58,7),(59,8),(60,9)] [(7,fun vs _ => vs 7 = .int .i64 (((T1 (ix j xx)).2 + (T2 (ix j xx)).2) - ((T1 (ix j xx)).1 + (T2 (ix j xx)).1))),(8,fun vs _ => vs 8 = .int .i64 (max (widest T1 T2 j (pre.map (·.1))) (((T1 (ix j xx)).2 + (T2 (ix j xx)).2) - ((T1 (ix j xx)).1 + (T2 (ix j xx)).1)))),(9,fun vs _ => vs 9 = .pointer (some ⟨gL,j,none⟩))]
       (by kernel_rfl) (by kernel_rfl) (by kernel_rfl) (by decide) (by decide) (fun _ h => Below.trans ((Below.refl X.heap.size X).drew) h) ?hst ?hcg ?hstep ?hfin
      case hst => exact ⟨fun _ _ _ h _ => h,fun _ _ _ h _ => h,fun _ _ _ h _ => h,trivial⟩
      case hcg => exact ⟨fun _ _ _ he h => (he 7 (by simp)).trans h,fun _ _ _ he h => (he 8 (by simp)).trans h,fun _ _ _ he h => (he 9 (by simp)).trans h,trivial⟩
      case hstep =>
       refine ⟨?_,?_,?_,trivial⟩
       ·rintro vs v1 - hv
        refine ⟨_,_,rfl,rfl,?_⟩
        clear hS
        simp only [RegRel.fillT,List.foldl_cons,List.foldl_nil,Sp4,Sp5,Sp6]
        go_simp
        refine (spread_any _ _ _ (by omega) (by omega) (by omega) (by omega)).mono ?_
        rintro rr v2 ⟨rfl,hb2⟩
        first | exact ⟨rfl,hb2,rfl,fun h => absurd h (by decide)⟩ | exact ⟨rfl,hb2,fun h => absurd h (by decide)⟩ | exact ⟨rfl,hb2,rfl⟩ | exact ⟨rfl,hb2⟩ | exact hb2 | trace_state
       ·rintro vs v1 ⟨h7,-⟩ hv
        refine ⟨_,_,rfl,rfl,?_⟩
        clear hS
        try dsimp only at h7
        simp only [RegRel.fillT,List.foldl_cons,List.foldl_nil,Sp4,Sp5,Sp6]
        simp only [h7]
        clear h7
        go_simp
        refine ⟨?_,Below.refl _ _⟩
        exact congrArg (Value.int IntKind.i64) (max_if _ _)
       ·rintro vs v1 ⟨h7,h8,-⟩ hv
        refine ⟨_,_,rfl,rfl,?_⟩
        clear hS
        try dsimp only at h7 h8
        simp only [RegRel.fillT,List.foldl_cons,List.foldl_nil,Sp4,Sp5,Sp6]
        clear h7 h8
        go_simp
        first | exact ⟨rfl,Below.refl _ _,rfl,fun h => absurd h (by decide)⟩ | exact ⟨rfl,Below.refl _ _,fun h => absurd h (by decide)⟩ | exact ⟨rfl,Below.refl _ _,rfl⟩ | exact ⟨rfl,Below.refl _ _⟩ | exact Below.refl _ _ | trace_state
      case hfin =>
       rintro vs v1 ⟨h7,h8,h9,-⟩ hv
       clear hS
       try dsimp only at h7 h8 h9
       simp only [List.filter_cons,List.contains_cons,List.contains_nil,Nat.reduceBEq,Bool.or_false,Bool.not_false,if_true,List.filter_nil]
       simp only [RegRel.fillT,List.foldl_cons,List.foldl_nil,Sp4,Sp5,Sp6]
       simp only [h7,h8,h9]
       clear h7 h8 h9
       have hvW : Below X.heap.size X v1:=((Below.refl X.heap.size X).drew).trans hv
       have p0:=cellC (W:=X.drew) hv p0
       have pf : ∀ o,v1.frozen? ⟨gL,o,none⟩ = false:=((DL.call UV).drew.call hv).free
       refine RegRel.wpOps_go rfl rfl ?_
       go_simp
       refine RegRel.wpOps_end ?_
       have kf : ∀ B,KeepsFrom B V (v1.setCell ⟨gL,j,none⟩ (.int .i64 (max (widest T1 T2 j (pre.map (·.1))) (((T1 (ix j xx)).2 + (T2 (ix j xx)).2) - ((T1 (ix j xx)).1 + (T2 (ix j xx)).1))))):=fun B => (keepsFrom_below UV).trans ((keepsFrom_below hvW).trans ((KeepsOthers.setCell _ _ _).from _))
       have hVv : Below V.heap.size V v1:=UV.trans (hvW.mono UV.size)
       refine ⟨kf _,?_,⟨⟨⟨⟨⟨⟨⟨⟨⟨⟨⟨?_,?_⟩,?_⟩,?_⟩,?_⟩,?_⟩,?_⟩,?_⟩,?_⟩,?_⟩,?_⟩,?_⟩⟩
       ·exact (Below.heap_setCell _ _ _ _ (by simp <;> omega)).trans (hVv.block _ DI.lt)
       ·show Bx _ _ 3 (iarr n (Lst T1 T2 f j ((pre ++ [x]).map (·.1))))
        rw [List.map_append,List.map_cons,List.map_nil,HX.out,← Lst_step,Lst_self]
        have hs:=(DL.call hVv).set_ j (.int .i64 (max (widest T1 T2 j (pre.map (·.1))) (((T1 (ix j xx)).2 + (T2 (ix j xx)).2) - ((T1 (ix j xx)).1 + (T2 (ix j xx)).1))))
        rw [iarr_set] at hs
        exact hs
       ·exact (D1.call hVv).far (by simp <;> omega) _
       ·exact (D8.call hVv).far (by simp <;> omega) _
       ·exact (D9.call hVv).far (by simp <;> omega) _
       ·exact (D3.call hVv).far (by simp <;> omega) _
       ·exact (D7.call hVv).far (by simp <;> omega) _
       ·exact (DB.call hVv).far (by simp <;> omega) _
       ·exact (DZ.call hVv).far (by simp <;> omega) _
       ·exact (DJ.call hVv).far (by simp <;> omega) _
       ·exact (DI.call hVv).far (by simp <;> omega) _
       ·exact DM.kept fun k o _ hk ho => (kf 0).same k o (Nat.zero_le _) hk ho
       ·exact (DW.trans (hVv.mono hbV0)).setCell (p:=⟨gL,j,none⟩) (by simp <;> omega) _
    case done =>
     rintro D ys V hD hys ⟨⟨⟨⟨⟨⟨⟨⟨⟨⟨⟨DL,D1⟩,D8⟩,D9⟩,D3⟩,D7⟩,DB⟩,DZ⟩,DJ⟩,DI⟩,DM⟩,DW⟩ hKD
     rw [hys,← HK0.out,← HK1.out,Lst_end] at DL
     have DM':=DM.more (D:=D) (by omega) hKD (fun d hd D' he => by have:=hMlt d hd D' he; omega)
     clear hKD
     have hwj : IntKind.i64.wrap ((j : Int) + 1) = (j : Int) + 1:=IntWalk.i64_in _ (by omega)
     go_wp2
     refine ⟨⟨j + 1,_,_,_,_,_,_,_,_,_,by omega,rfl,DM',DL,D1,D8,D9,D3,D7,DB,DZ,DW⟩,?_⟩
     show ((n : Int) - ((j : Int) + 1)).toNat < ((n : Int) - (j : Int)).toNat
     omega
    case stop =>
     rintro D c pre W _ _ h _
     exact h.elim
   ·obtain rfl : j = n:=by omega
    obtain ⟨z0,zf,zz⟩:=B1.one
    go_wp2
    refine leavesM_marks (B:=b) ds W hM fun W' hb hk _ => ?_
    refine ⟨_,results_tmp rfl _ _ _,⟨gL,rfl,by have:=HBE.out; omega,(hk _ (hM.ne BL)).trans BL⟩,?_⟩
    rw [HBE.out]
    exact hB.trans hb
end Go.Proofs.Ytgbogdckmfencaa
