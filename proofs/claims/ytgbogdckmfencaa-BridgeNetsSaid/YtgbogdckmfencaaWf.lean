/- bridge.weightsFrom. -/
import Derived.Test.YtgbogdckmfencaaTbM
set_option linter.unusedSimpArgs false
set_option linter.unusedVariables false
namespace Go.Proofs.Ytgbogdckmfencaa
open Go.RowKit Go.Shelf
attribute [local go_sem] Oper.semAt_some
theorem wpListIn_val {F : Fence} {n : Nat} {P : Program} {ops : Array Oper} {Q : Exit → Act → World → Prop} {a : Act} {w w' : World} {rest : List Oper} {o : Oper} {v : Value} (hg : o.guard = none) (hnd : ∀ c,o.op ≠ .defer c)
  (hab : ∀ f,o.about P w a.eval = some f → F.fn f) (hr : (execOp a.eval o).run P w = .ok (.value v) w') (h : wpListIn F n P ops Q rest (a.put o.dst v) w') : wpListIn F n P ops Q (o :: rest) a w:=by
 unfold wpListIn
 rw [if_pos (by simp [Region.wanted,hg])]
 refine ⟨hab,?_⟩
 rw [Oper.semAt_eq _ _ _ hnd,hr]
 exact h
theorem Marks.own {B : Nat} {W W' : World} {ds : List Deferred} {row : Option Nat} (h : Marks B W ds) (hg : W.grownBy W' row) (hlt : ∀ r,row = some r → ∀ d ∈ ds,∀ D,d.target = .collected D → D < r) : Marks B W' ds:=by
 obtain ⟨Ds,rfl,h2,h3⟩:=h
 refine ⟨Ds,rfl,h2,fun D hD => ⟨(h3 D hD).1,?_⟩⟩
 have hl:=(Array.getElem?_eq_some_iff.1 (h3 D hD).2).1
 rw [hg.block D hl (fun e => by
  have:=hlt D e.symm _ (List.mem_map_of_mem hD) D rfl
  omega)]
 exact (h3 D hD).2
/-- Between two rounds of weightsFrom's loop: j events are done. -/
def WfInv (x0 x1 x2 : Value) (A : Option Addr) (n c gl gm : Nat) (f : Nat → Int × Int) (wt fol : Nat → Int → Int × Int) (w : World) (b : Nat) (a : Act) (W : World) : Prop :=
 ∃ (j g9 : Nat) (ds : List Deferred) (u22 u23 u24 u25 u26 u27 u28 u29 u63 : Value),j ≤ n ∧ a = { tmps:=#[.agg #[x0,x1,x2,.slice A n c],.agg (zarr f),.func (.func 97) #[] #[.pointer (some ⟨gl,0,none⟩),.pointer (some ⟨gm,0,none⟩)],.pointer (some ⟨b,0,none⟩),.pointer (some ⟨b + 1,0,none⟩),.pointer (some ⟨b + 1 + 1,0,none⟩),.slice none 0 0,.pointer (some ⟨b + 1 + 1 + 1 + 1,0,none⟩),.pointer (some ⟨b + 1 + 1 + 1 + 1 + 1,0,none⟩),.pointer (some ⟨g9,0,none⟩),undef,undef,undef,.pointer (some ⟨b,3,none⟩),.slice A n c,.int .i64 n,.slice (some ⟨b + 1 + 1 + 1,0,none⟩) n n,.pointer (some ⟨b,3,none⟩),.slice A n c,.int .i64 n,.int .i64 ((n : Int) - 1),.int .i64 ((n : Int) - 1),u22,u23,u24,u25,u26,u27,u28,u29,undef,undef,undef,undef,undef,undef,undef,undef,undef,undef,undef,undef,undef,undef,undef,undef,undef,undef,undef,undef,undef,undef,undef,undef,undef,undef,undef,undef,undef,undef,undef,undef,undef,u63,undef],defers:=ds } ∧ Marks b W ds ∧ b + 1 + 1 + 1 + 1 + 1 + 1 ≤ g9 ∧
  Bx W b 26 #[x0,x1,x2,.slice A n c] ∧ Bx W (b + 1) 91 (zarr f) ∧ Bx W (b + 1 + 1) 54 #[.func (.func 97) #[] #[.pointer (some ⟨gl,0,none⟩),.pointer (some ⟨gm,0,none⟩)]] ∧ Bx W (b + 1 + 1 + 1) 135 (parr (n * 401) (Tab wt fol f n j)) ∧
  Bx W (b + 1 + 1 + 1 + 1) 128 #[.slice (some ⟨b + 1 + 1 + 1,0,none⟩) n n] ∧ Bx W (b + 1 + 1 + 1 + 1 + 1) 3 #[.int .i64 ((n : Int) - 1)] ∧ Bx W g9 3 #[.int .i64 ((n : Int) - 1 - j)] ∧ Below b w W
/-- What is left to do. -/
def wfLeft (a : Act) (W : World) : Nat:=match a.tmps[9]? with
 | some (Value.pointer (some p)) => match W.cell? p with
  | some (Value.int _ i) => (i + 1).toNat
  | _ => 0
 | _ => 0
def z802 : Array Value:=Array.replicate 802 (.int .i64 0)
theorem z802_size : z802.size = 802:=by simp [z802]
theorem z802_get : ∀ i,i < 802 → z802[i]? = some (.int .i64 0):=fun i hi => by simp [z802,hi]
theorem info135 : (Try.prog.info? 135).map (fun i => (i.zero,i.size,i.bytes)) = some (some (.agg z802),802,6416):=by kernel_rfl
attribute [irreducible] z802
theorem make_tal (n : Nat) (hn : n ≤ 14) (w : World) : (Instr.makeSlice 128 (.int .i64 (n : Int)) (.int .i64 (n : Int))).run Try.prog w = .ok (.slice (some ⟨w.heap.size,0,none⟩) n n) (w.alloc (.cells (parr (n * 401) fun _ => (0,0)) 135)):=by
 obtain ⟨i0,hi,hz0,hz1,hz2⟩:=info_parts info135
 have h:=run_make_n (P:=Try.prog) 128 135 i0 _ Try.underlying128 hi hz0 n (by rw [hz2]; omega) (by omega) w
 rw [h]
 have e : madeCells (Value.cells (.agg z802)) (n * i0.size) = parr (n * 401) fun _ => (0,0):=by rw [hz1]; exact parr_made n z802 z802_size z802_get
 rw [e]
theorem marks_ownFrom {α : Type} {B b : Nat} {ds : List Deferred} (hlt : ∀ d ∈ ds,∀ D,d.target = .collected D → D < B) : OwnFrom B (fun (_ : α) W => Marks b W ds) :=
 fun _ _ _ _ hs hg hr => hs.own hg (fun r e d hd D he => by have:=hlt d hd D he; have:=(hr r e).1; omega)
theorem Marks.ne {B k t : Nat} {cs : Array Value} {W : World} {ds : List Deferred} (h : Marks B W ds) (hb : Bx W k t cs) : ∀ d ∈ ds,d.target ≠ .collected k:=by
 obtain ⟨Ds,rfl,h2,h3⟩:=h
 intro d hd e
 obtain ⟨D,hD,rfl⟩:=List.mem_map.1 hd
 injection e with e
 have:=(h3 D hD).2
 unfold Bx at hb
 rw [e,hb] at this
 cases this
set_option maxRecDepth 100000 in
set_option maxHeartbeats 4000000 in
theorem weightsFrom_any (x0 x1 x2 : Value) (A : Option Addr) (n c gl gm : Nat) (f : Nat → Int × Int) (wt fol : Nat → Int → Int × Int) (w : World) (hn : 1 ≤ n) (hn2 : n ≤ 14)
  (hf : ∀ i,i < n → -200 ≤ (f i).1 ∧ (f i).1 ≤ 200 ∧ -200 ≤ (f i).2 ∧ (f i).2 ≤ 200) (hwt : ∀ e z,Bd 100000 (wt e z))
  (hfol : ∀ e z,-1000 ≤ (fol e z).1 ∧ (fol e z).1 ≤ 1000 ∧ -1000 ≤ (fol e z).2 ∧ (fol e z).2 ≤ 1000 ∧ ∀ x,(fol e z).1 ≤ x → x ≤ (fol e z).2 → -200 ≤ x ∧ x ≤ 200)
  (h104 : ∀ W,Below w.heap.size w W → ∀ (e : Nat) (z : Int),e + 1 < n → -200 ≤ z → z ≤ 200 → Calls Try.prog 104 #[.agg #[x0,x1,x2,.slice A n c],.agg (zarr f),.int .i64 e,.int .i64 z] W (Iter W (fol e z).1 (fol e z).2))
  (h97 : ∀ W,Below w.heap.size w W → ∀ (e : Nat) (z : Int),e < n → -200 ≤ z → z ≤ 200 → Calls Try.prog 97 #[.int .i64 e,.int .i64 z,.pointer (some ⟨gl,0,none⟩),.pointer (some ⟨gm,0,none⟩)] W fun r W' => r = .returned (.agg #[.int .i64 (wt e z).1,.int .i64 (wt e z).2]) ∧ Below W.heap.size W W') :
  Calls Try.prog 92 #[.agg #[x0,x1,x2,.slice A n c],.agg (zarr f),.func (.func 97) #[] #[.pointer (some ⟨gl,0,none⟩),.pointer (some ⟨gm,0,none⟩)]] w fun e W' => (∃ tb,e = .returned (.slice (some ⟨tb,0,none⟩) n n) ∧ w.heap.size ≤ tb ∧ Bx W' tb 135 (parr (n * 401) (Tab wt fol f n n))) ∧ Below w.heap.size w W':=by
 have H104:=Lib.hid h104
 have H97:=Lib.hid h97
 have HF:=Lib.hid hf
 have HFOL:=Lib.hid hfol
 have HWT:=Lib.hid hwt
 clear h104 h97 hf hfol hwt
 have hmk:=make_tal n hn2
 have hw1 : IntKind.i64.wrap ((n : Int) - 1) = (n : Int) - 1:=IntWalk.i64_in _ (by omega)
 refine (callsIn_wide (n:=9)).1 ?_
 refine callsIn_of_wp_marks Try.func92 rfl trivial ?_ rfl
 refine wpIn_wide.2 ?_
 simp only [Try.ntmps92,List.size_toArray,List.length_cons,List.length_nil,Nat.reduceAdd,Nat.reduceSub,Array.replicate_succ,Array.replicate_zero,List.push_toArray,List.append_toArray,List.nil_append,List.cons_append]
 go_wp2_with fail
 have hb : w.heap.size = w.heap.size:=rfl
 refine wp_loop (WfInv x0 x1 x2 A n c gl gm f wt fol w w.heap.size) wfLeft ?h0 ?round
 case h0 =>
  refine ⟨0,w.heap.size + 1 + 1 + 1 + 1 + 1 + 1,[],undef,undef,undef,undef,undef,undef,undef,undef,undef,by omega,rfl,Marks.nil _ _,Nat.le_refl _,?_,?_,?_,?_,?_,?_,?_,?_⟩
  all_goals (try rw [show ((n : Int) - 1 - ((0 : Nat) : Int)) = (n : Int) - 1 from by omega])
  all_goals repeat (first | exact Below.refl _ _ | (refine Bx.at _ _ _ ?_; simp; done) | refine Bx.alloc ?_ _ | refine Below.alloc ?_ (by simp; try omega) _ | (simp only [Nat.cast_zero,Int.sub_zero]; refine Bx.at _ _ _ ?_; simp; done) | (simp; refine Bx.at _ _ _ ?_; simp; done))
 case round =>
  clear hmk
  rintro a W ⟨j,g9,ds,u22,u23,u24,u25,u26,u27,u28,u29,u63,hj,rfl,hM,hg9,B3,B4,B5,BT,B7,B8,B9,hB⟩
  obtain ⟨b,hbe⟩ : ∃ b,w.heap.size = b:=⟨_,rfl⟩
  rw [hbe] at hM hg9 B3 B4 B5 BT B7 B8 hB ⊢
  have HBE:=Lib.hid hbe
  clear hbe hb
  by_cases hjn : j < n
  ·obtain ⟨e,he⟩ : ∃ e : Nat,(n : Int) - 1 - j = e:=⟨n - 1 - j,by omega⟩
   rw [he] at B9
   have hen : e < n:=by omega
   have he0 : (0 : Int) ≤ (e : Int):=by omega
   have he1 : (e : Int) < 14:=by omega
   have hje : e = n - 1 - j:=by omega
   have HJE:=Lib.hid hje
   have HE:=Lib.hid he
   clear he hje
   have hfe:=HF.out e hen
   have c0:=(B4.cell (e * 2)).trans (zarr_fst f (by omega))
   have c1:=(B4.cell (e * 2 + 1)).trans (zarr_snd f (by omega))
   obtain ⟨k0,hk0⟩ : ∃ k0,(f e).1 = k0:=⟨_,rfl⟩
   obtain ⟨k1,hk1⟩ : ∃ k1,(f e).2 = k1:=⟨_,rfl⟩
   rw [hk0] at c0 hfe
   rw [hk1] at c1 hfe
   have HK0:=Lib.hid hk0
   have HK1:=Lib.hid hk1
   clear hk0 hk1
   obtain ⟨f1,f2,f3,f4⟩:=hfe
   obtain ⟨s0,sf,sz⟩:=B9.one
   have hwl : wfLeft { tmps:=#[.agg #[x0,x1,x2,.slice A n c],.agg (zarr f),.func (.func 97) #[] #[.pointer (some ⟨gl,0,none⟩),.pointer (some ⟨gm,0,none⟩)],.pointer (some ⟨b,0,none⟩),.pointer (some ⟨b + 1,0,none⟩),.pointer (some ⟨b + 1 + 1,0,none⟩),.slice none 0 0,.pointer (some ⟨b + 1 + 1 + 1 + 1,0,none⟩),.pointer (some ⟨b + 1 + 1 + 1 + 1 + 1,0,none⟩),.pointer (some ⟨g9,0,none⟩),undef,undef,undef,.pointer (some ⟨b,3,none⟩),.slice A n c,.int .i64 n,.slice (some ⟨b + 1 + 1 + 1,0,none⟩) n n,.pointer (some ⟨b,3,none⟩),.slice A n c,.int .i64 n,.int .i64 ((n : Int) - 1),.int .i64 ((n : Int) - 1),u22,u23,u24,u25,u26,u27,u28,u29,undef,undef,undef,undef,undef,undef,undef,undef,undef,undef,undef,undef,undef,undef,undef,undef,undef,undef,undef,undef,undef,undef,undef,undef,undef,undef,undef,undef,undef,undef,undef,undef,undef,u63,undef],defers:=ds } W = e + 1:=by
    show (match W.cell? ⟨g9,0,none⟩ with | some (Value.int _ i) => (i + 1).toNat | _ => 0) = _
    rw [s0]
    show ((e : Int) + 1).toNat = e + 1
    omega
   have HWL:=Lib.hid hwl
   clear hwl
   go_wp2_with (go_at_call 94; refine (numbers_any _ _ _).mono ?_; rintro e3 w3 ⟨rfl,rfl⟩)
   have bx0:=Bx.new W 23 #[.int .i64 k0,.int .i64 k1]
   have C3:=B3.alloc (.cells #[.int .i64 k0,.int .i64 k1] 23)
   have C4:=B4.alloc (.cells #[.int .i64 k0,.int .i64 k1] 23)
   have C5:=B5.alloc (.cells #[.int .i64 k0,.int .i64 k1] 23)
   have CT:=BT.alloc (.cells #[.int .i64 k0,.int .i64 k1] 23)
   have C7:=B7.alloc (.cells #[.int .i64 k0,.int .i64 k1] 23)
   have C8:=B8.alloc (.cells #[.int .i64 k0,.int .i64 k1] 23)
   have C9:=B9.alloc (.cells #[.int .i64 k0,.int .i64 k1] 23)
   have hbW : b ≤ W.heap.size:=by have:=B3.lt; omega
   have CM : Marks b (W.alloc (.cells #[.int .i64 k0,.int .i64 k1] 23)) ds:=hM.call ((Below.refl _ _).alloc (Nat.le_refl _) _)
   have hMlt:=hM.lt
   have CB:=hB.alloc hbW (.cells #[.int .i64 k0,.int .i64 k1] 23)
   obtain ⟨G,hG⟩ : ∃ G,W.heap.size = G:=⟨_,rfl⟩
   obtain ⟨W0,hW0⟩ : ∃ W0,W.alloc (.cells #[.int .i64 k0,.int .i64 k1] 23) = W0:=⟨_,rfl⟩
   have d5 : W0.heap.size = G + 1:=by rw [← hW0,← hG]; simp
   have d9 : g9 < G:=by rw [← hG]; exact B9.lt
   rw [hW0] at bx0 C3 C4 C5 CT C7 C8 C9 CM CB ⊢
   rw [hG] at bx0 hMlt ⊢
   clear B3 B4 B5 BT B7 B8 B9 hM hB c0 c1 s0 sf sz hW0 hG hbW
   refine (wpIn_wide (n:=9)).1 ?_
   refine wpIn_rangeFunc_ownH (F:=Fence.wide) rfl (by omega) (gf:=105) (lb:=#[.pointer (some ⟨G,0,none⟩)]) rfl trivial (enters_of Try.func105 (by kernel_rfl) rfl)
    (numbers1_stops Fence.wide (9 - 1) trivial rfl (by omega) G k0 k1 (by omega) (by omega) (by omega) (by omega) W0 bx0) (fun h k => sameBox_t h k) (sameBox_b bx0.lt) (Below.refl _ _) (fun _ => rfl)
    (fun pre V => ((((((((Bx V (b + 1 + 1 + 1) 135 (parr (n * 401) (fill wt fol (decide (j = 0)) e (Tab wt fol f n j) (pre.map (·.1)))) ∧ Bx V b 26 #[x0,x1,x2,.slice A n c]) ∧ Bx V (b + 1) 91 (zarr f)) ∧ Bx V (b + 1 + 1) 54 #[.func (.func 97) #[] #[.pointer (some ⟨gl,0,none⟩),.pointer (some ⟨gm,0,none⟩)]]) ∧ Bx V (b + 1 + 1 + 1 + 1) 128 #[.slice (some ⟨b + 1 + 1 + 1,0,none⟩) n n]) ∧ Bx V (b + 1 + 1 + 1 + 1 + 1) 3 #[.int .i64 ((n : Int) - 1)]) ∧ Bx V g9 3 #[.int .i64 e]) ∧ Marks b V ds) ∧ Below b w V))
    (fun _ _ _ => False)
    (OwnFrom.and (OwnFrom.and (OwnFrom.and (OwnFrom.and (OwnFrom.and (OwnFrom.and (OwnFrom.and (OwnFrom.and (Own.from (bx_own _ _ _) _) (Own.from (bx_own _ _ _) _)) (Own.from (bx_own _ _ _) _)) (Own.from (bx_own _ _ _) _)) (Own.from (bx_own _ _ _) _)) (Own.from (bx_own _ _ _) _)) (Own.from (bx_own _ _ _) _)) (marks_ownFrom (fun d hd D he => by have:=hMlt d hd D he; omega))) (ownFrom_below (by rw [← HBE.out]; exact Nat.le_refl _) (by omega)))
    (fun _ _ _ _ _ hs _ _ => hs)
    ⟨⟨⟨⟨⟨⟨⟨⟨CT,C3⟩,C4⟩,C5⟩,C7⟩,C8⟩,C9⟩,CM⟩,CB⟩
    (fun x a' _ => a' = { tmps:=#[.agg #[x0,x1,x2,.slice A n c],.agg (zarr f),.func (.func 97) #[] #[.pointer (some ⟨gl,0,none⟩),.pointer (some ⟨gm,0,none⟩)],.pointer (some ⟨b,0,none⟩),.pointer (some ⟨b + 1,0,none⟩),.pointer (some ⟨b + 1 + 1,0,none⟩),.slice none 0 0,.pointer (some ⟨b + 1 + 1 + 1 + 1,0,none⟩),.pointer (some ⟨b + 1 + 1 + 1 + 1 + 1,0,none⟩),.pointer (some ⟨g9,0,none⟩),.int .i64 x.1,undef,undef,.pointer (some ⟨b,3,none⟩),.slice A n c,.int .i64 n,.slice (some ⟨b + 1 + 1 + 1,0,none⟩) n n,.pointer (some ⟨b,3,none⟩),.slice A n c,.int .i64 n,.int .i64 ((n : Int) - 1),.int .i64 ((n : Int) - 1),.int .i64 e,.bool true,u24,u25,.int .i64 e,.pointer (some ⟨b + 1,e * 2,none⟩),.agg #[.int .i64 k0,.int .i64 k1],.func (.func 105) #[] #[.pointer (some ⟨G,0,none⟩)],.int .i64 x.1,undef,undef,undef,undef,undef,undef,undef,undef,undef,undef,undef,undef,undef,undef,undef,undef,undef,undef,undef,undef,undef,undef,undef,undef,undef,undef,undef,undef,undef,undef,undef,undef,u63,undef],defers:=[] })
    (fun _ _ _ _ _ _ hs _ _ => hs)
    ?assign ?body ?done ?stop
   case assign =>
    rintro l pre x V K hi hK
    gi_wp2
    exact hK _ _ (KeepsFrom.refl _ _) rfl hi rfl
   case body =>
    rintro l pre x a' V hl ⟨r,hr⟩ ⟨⟨⟨⟨⟨⟨⟨⟨DT,D3⟩,D4⟩,D5⟩,D7⟩,D8⟩,D9⟩,DM⟩,DB⟩ rfl hlt
    have hx1:=x.2.1
    have hx2:=x.2.2
    obtain ⟨xx,hxx⟩ : ∃ xx,x.1 = xx:=⟨_,rfl⟩
    rw [hxx] at hx1 hx2 ⊢
    have HX:=Lib.hid hxx
    clear hxx
    obtain ⟨T,hT⟩ : ∃ T,fill wt fol (decide (j = 0)) e (Tab wt fol f n j) (pre.map (·.1)) = T:=⟨_,rfl⟩
    rw [hT] at DT
    have HT:=Lib.hid hT
    clear hT
    have hlV:=(Array.getElem?_eq_some_iff.1 hr).1
    have HR:=Lib.hid hr
    clear hr
    obtain ⟨s0,sf,sz⟩:=D9.one
    obtain ⟨v0,vf,vz⟩:=D8.one
    obtain ⟨l0,l1,l2,l3,lf,lz⟩:=D3.four
    by_cases hlast : e + 1 < n
    ·have hl1 : (e : Int) < (n : Int) - 1:=by omega
     gi_wp2_with fail
     refine ⟨trivial,?_⟩
     refine (CallsIn.inRound l (callsIn_wide.2 (nothing_any _))).mono ?_
     rintro e3 w3 ⟨rfl,hb3⟩
     have hbV : b < V.heap.size:=D3.lt
     have hbT : b + 1 + 1 + 1 < V.heap.size:=DT.lt
     have hb8 : b + 1 + 1 + 1 + 1 + 1 < V.heap.size:=D8.lt
     have hg9V : g9 < V.heap.size:=D9.lt
     have F11:=(Bx.new V 23 #[.int .i64 0,.int .i64 0]).call hb3
     have F3:=(((D3.alloc (.cells #[.int .i64 0,.int .i64 0] 23)).call hb3).far (p:=⟨V.heap.size,0,none⟩) (by simp; omega) (.int .i64 1073741824)).far (p:=⟨V.heap.size,1,none⟩) (by simp; omega) (.int .i64 (-1073741824))
     have F4:=(((D4.alloc (.cells #[.int .i64 0,.int .i64 0] 23)).call hb3).far (p:=⟨V.heap.size,0,none⟩) (by simp; omega) (.int .i64 1073741824)).far (p:=⟨V.heap.size,1,none⟩) (by simp; omega) (.int .i64 (-1073741824))
     have F5:=(((D5.alloc (.cells #[.int .i64 0,.int .i64 0] 23)).call hb3).far (p:=⟨V.heap.size,0,none⟩) (by simp; omega) (.int .i64 1073741824)).far (p:=⟨V.heap.size,1,none⟩) (by simp; omega) (.int .i64 (-1073741824))
     have FT:=(((DT.alloc (.cells #[.int .i64 0,.int .i64 0] 23)).call hb3).far (p:=⟨V.heap.size,0,none⟩) (by simp; omega) (.int .i64 1073741824)).far (p:=⟨V.heap.size,1,none⟩) (by simp; omega) (.int .i64 (-1073741824))
     have F7:=(((D7.alloc (.cells #[.int .i64 0,.int .i64 0] 23)).call hb3).far (p:=⟨V.heap.size,0,none⟩) (by simp; omega) (.int .i64 1073741824)).far (p:=⟨V.heap.size,1,none⟩) (by simp; omega) (.int .i64 (-1073741824))
     have F8:=(((D8.alloc (.cells #[.int .i64 0,.int .i64 0] 23)).call hb3).far (p:=⟨V.heap.size,0,none⟩) (by simp; omega) (.int .i64 1073741824)).far (p:=⟨V.heap.size,1,none⟩) (by simp; omega) (.int .i64 (-1073741824))
     have F9:=(((D9.alloc (.cells #[.int .i64 0,.int .i64 0] 23)).call hb3).far (p:=⟨V.heap.size,0,none⟩) (by simp; omega) (.int .i64 1073741824)).far (p:=⟨V.heap.size,1,none⟩) (by simp; omega) (.int .i64 (-1073741824))
     have G11:=(F11.set_ 0 (.int .i64 1073741824)).set_ 1 (.int .i64 (-1073741824))
     have hVa : Below V.heap.size V w3:=((Below.refl _ _).alloc (Nat.le_refl _) (.cells #[.int .i64 0,.int .i64 0] 23)).trans (hb3.mono (by simp))
     have FK : KeepsFrom W0.heap.size V ((w3.setCell ⟨V.heap.size,0,none⟩ (.int .i64 1073741824)).setCell ⟨V.heap.size,1,none⟩ (.int .i64 (-1073741824))):=(keepsFrom_below hVa).trans (((KeepsOthers.setCell _ _ _).from _).trans ((KeepsOthers.setCell _ _ _).from _))
     have FV : Below V.heap.size V ((w3.setCell ⟨V.heap.size,0,none⟩ (.int .i64 1073741824)).setCell ⟨V.heap.size,1,none⟩ (.int .i64 (-1073741824))):=(hVa.setCell (p:=⟨V.heap.size,0,none⟩) (Nat.le_refl _) _).setCell (p:=⟨V.heap.size,1,none⟩) (Nat.le_refl _) _
     obtain ⟨y0,y1,yf,yz⟩:=F11.two
     clear F11 hb3 hVa
     obtain ⟨l0',l1',l2',l3',lf',lz'⟩:=F3.four
     obtain ⟨s0',sf',sz'⟩:=F9.one
     clear l0 l1 l2 l3 lf lz s0 sf sz v0 vf vz lz' sz'
     gi_wp2_with (first
      | ((with_reducible (show wpListIn _ _ _ _ _ (⟨some 36,_,_,_,_,_⟩ :: _) _ _)); refine wpListIn_val rfl (fun _ h => by cases h) (fun _ _ => trivial) (run_load_bx 91 (.tmp 4) rfl (b + 1) rfl 91 _ _ F4 Try.underlying91 rfl (by rw [zarr_size]; kernel_rfl)) ?_))
     refine ⟨trivial,?_⟩
     have hB3 : Below w.heap.size w ((w3.setCell ⟨V.heap.size,0,none⟩ (.int .i64 1073741824)).setCell ⟨V.heap.size,1,none⟩ (.int .i64 (-1073741824))):=by rw [HBE.out]; exact DB.trans (FV.mono (by have:=DB.size; omega))
     refine (CallsIn.inRound l (callsIn_wide.2 (H104.out _ hB3 e xx hlast (by omega) (by omega)))).mono ?_
     rintro e4 w4 ⟨⟨gi,rfl,hgi,hbi⟩,hb4⟩
     have hgV : V.heap.size < gi:=Nat.lt_of_lt_of_le G11.lt hgi
     have hgi4:=hbi.lt
     have G11':=G11.call hb4
     have FV4 : Below V.heap.size V w4:=FV.trans (hb4.mono FV.size)
     have FK4 : KeepsFrom W0.heap.size V w4:=FK.trans (keepsFrom_below hb4)
     clear F3 F4 F5 FT F7 F8 F9 G11 FV FK hB3 l0' l1' l2' l3' lf' s0' sf' y0 y1 yf yz
     have hfo:=HFOL.out e xx
     obtain ⟨lo,hlo⟩ : ∃ lo,(fol e xx).1 = lo:=⟨_,rfl⟩
     obtain ⟨hi,hhi⟩ : ∃ hi,(fol e xx).2 = hi:=⟨_,rfl⟩
     rw [hlo,hhi] at hfo hbi
     have HLO:=Lib.hid hlo
     have HHI:=Lib.hid hhi
     clear hlo hhi
     obtain ⟨o1,o2,o3,o4,o5⟩:=hfo
     have HO5:=Lib.hid o5
     clear o5
     gi_wp2_with fail
     have hr4 : w4.heap[l]? = some (.loop r):=(FV4.block l hlV).trans HR.out
     have hV4:=FV4.size
     refine wpIn_rangeFunc_ownN (F:=Fence.wide.inRound l) (l₀:=l) (r₀:=r) rfl hr4 (by omega) (gf:=105) (lb:=#[.pointer (some ⟨gi,0,none⟩)]) rfl trivial (enters_of Try.func105 (by kernel_rfl) rfl)
      ((numbers1_stops Fence.wide (9 - 1 - 1 - 1) trivial rfl (by omega) gi lo hi (by omega) (by omega) (by omega) (by omega) w4 hbi).inRound l) (fun h k => sameBox_t h k) (sameBox_b hbi.lt) (Below.refl _ _) (fun _ => rfl)
      (fun pre' U => Bx U V.heap.size 23 #[.int .i64 (covers (fun nx => T (ix (e + 1) nx)) (pre'.map (·.1))).1,.int .i64 (covers (fun nx => T (ix (e + 1) nx)) (pre'.map (·.1))).2] ∧ (Below V.heap.size V U ∧ KeepsFrom W0.heap.size V U))
      (fun _ _ _ => False)
      (OwnFrom.and (Own.from (bx_own _ _ _) _) (OwnFrom.and (ownFrom_below (Nat.le_refl _) hV4) (ownFrom_keepsFrom hV4)))
      (fun _ _ _ _ _ hs _ _ => hs)
      ⟨G11',FV4,FK4⟩
      (fun y a'' _ => a'' = { tmps:=#[.agg #[x0,x1,x2,.slice A n c],.agg (zarr f),.func (.func 97) #[] #[.pointer (some ⟨gl,0,none⟩),.pointer (some ⟨gm,0,none⟩)],.pointer (some ⟨b,0,none⟩),.pointer (some ⟨b + 1,0,none⟩),.pointer (some ⟨b + 1 + 1,0,none⟩),.slice none 0 0,.pointer (some ⟨b + 1 + 1 + 1 + 1,0,none⟩),.pointer (some ⟨b + 1 + 1 + 1 + 1 + 1,0,none⟩),.pointer (some ⟨g9,0,none⟩),.int .i64 xx,.pointer (some ⟨V.heap.size,0,none⟩),.int .i64 y.1,.pointer (some ⟨b,3,none⟩),.slice A n c,.int .i64 n,.slice (some ⟨b + 1 + 1 + 1,0,none⟩) n n,.pointer (some ⟨b,3,none⟩),.slice A n c,.int .i64 n,.int .i64 ((n : Int) - 1),.int .i64 ((n : Int) - 1),.int .i64 e,.bool true,u24,u25,.int .i64 e,.pointer (some ⟨b + 1,e * 2,none⟩),.agg #[.int .i64 k0,.int .i64 k1],.func (.func 105) #[] #[.pointer (some ⟨G,0,none⟩)],.int .i64 xx,.int .i64 e,.int .i64 ((n : Int) - 1),.bool true,.agg #[.int .i64 1073741824,.int .i64 (-1073741824)],.agg #[x0,x1,x2,.slice A n c],.agg (zarr f),.int .i64 e,.int .i64 xx,.func (.func 105) #[] #[.pointer (some ⟨gi,0,none⟩)],.int .i64 y.1,undef,undef,undef,undef,undef,undef,undef,undef,undef,undef,undef,undef,undef,undef,undef,undef,undef,undef,undef,undef,undef,undef,u63,undef],defers:=[] })
      (fun _ _ _ _ _ _ hs _ _ => hs)
      ?assign2 ?body2 ?done2 ?stop2
     case assign2 =>
      rintro l2 pre' y U K hi' hK
      gi_wp2
      exact hK _ _ (KeepsFrom.refl _ _) rfl hi' rfl
     case body2 =>
      clear G11' FV4 FK4 hr4 hb4 hbi
      rintro l2 pre' y a'' U hl2 ⟨r2,hr2⟩ ⟨G11',UB,UK⟩ rfl hlt2
      have hy1:=y.2.1
      have hy2:=y.2.2
      obtain ⟨yy,hyy⟩ : ∃ yy,y.1 = yy:=⟨_,rfl⟩
      rw [hyy] at hy1 hy2 ⊢
      have HY:=Lib.hid hyy
      clear hyy
      have hyb:=HO5.out yy hy1 hy2
      obtain ⟨hyb1,hyb2⟩:=hyb
      obtain ⟨cv,hcv⟩ : ∃ cv,covers (fun nx => T (ix (e + 1) nx)) (pre'.map (·.1)) = cv:=⟨_,rfl⟩
      rw [hcv] at G11'
      have HCV:=Lib.hid hcv
      clear hcv
      have hlU:=(Array.getElem?_eq_some_iff.1 hr2).1
      clear hr2
      have UT:=DT.call UB
      have U7:=D7.call UB
      have U9:=D9.call UB
      obtain ⟨t0,t1,tf,tz⟩:=G11'.two
      obtain ⟨s0,sf,sz⟩:=U9.one
      obtain ⟨z0,zf,zz⟩:=U7.one
      have hix : ix (e + 1) yy < n * 401:=ix_lt hlast hyb1 hyb2
      have p0:=(UT.cell ((e + 1) * 802 + (yy + 200).toNat * 2)).trans (parr_fst (n * 401) T hix (by unfold ix; omega))
      have p1:=(UT.cell ((e + 1) * 802 + (yy + 200).toNat * 2 + 1)).trans (parr_snd (n * 401) T hix (by unfold ix; omega))
      have hwe : IntKind.i64.wrap ((e : Int) + 1) = (e : Int) + 1:=IntWalk.i64_in _ (by omega)
      have he2 : ((e : Int) + 1).toNat = e + 1:=by omega
      have he3 : 0 ≤ (e : Int) + 1:=by omega
      have he4 : (e : Int) + 1 < (n : Int):=by omega
      refine wpIn_block ?_
      refine AnyG.startIn (fun w' : World => Below U.heap.size U w') (fun i => i != 10) (by kernel_rfl) (by kernel_rfl) (fun _ _ h => h) ?_
      have hS : (fun w' : World => Below U.heap.size U w') (World.drew _):=(Below.refl _ _).drew
      refine AnyG.take (i:=0) (v:=?_) rfl (by kernel_rfl) (fun _ _ _ h => h) rfl ?_ hS ?_
      rotate_left
      ·(intro w' hSw; (try dsimp only at hSw); have t0:=cellC hSw t0; have t1:=cellC hSw t1; go_simp; try with_reducible rfl)
      try simp only [Act.put,Sp4,Sp5,Sp6]
      refine AnyG.take (i:=1) (v:=?_) rfl (by kernel_rfl) (fun _ _ _ h => h) rfl ?_ hS ?_
      rotate_left
      ·(intro w' hSw; (try dsimp only at hSw); have z0:=cellC hSw z0; go_simp; try with_reducible rfl)
      try simp only [Act.put,Sp4,Sp5,Sp6]
      refine AnyG.take (i:=2) (v:=?_) rfl (by kernel_rfl) (fun _ _ _ h => h) rfl ?_ hS ?_
      rotate_left
      ·(intro w' hSw; (try dsimp only at hSw); have s0:=cellC hSw s0; go_simp; try with_reducible rfl)
      try simp only [Act.put,Sp4,Sp5,Sp6]
      refine AnyG.take (i:=3) (v:=?_) rfl (by kernel_rfl) (fun _ _ _ h => h) rfl ?_ hS ?_
      rotate_left
      ·(intro w' _; go_simp; try with_reducible rfl)
      try simp only [Act.put,Sp4,Sp5,Sp6]
      refine AnyG.take (i:=4) (v:=?_) rfl (by kernel_rfl) (fun _ _ _ h => h) rfl ?_ hS ?_
      rotate_left
      ·(intro w' _; go_simp; try with_reducible rfl)
      try simp only [Act.put,Sp4,Sp5,Sp6]
      refine AnyG.take (i:=6) (v:=?_) rfl (by kernel_rfl) (fun _ _ _ h => h) rfl ?_ hS ?_
      rotate_left
      ·(intro w' _; go_simp; try with_reducible rfl)
      try simp only [Act.put,Sp4,Sp5,Sp6]
      refine RegRel.AnyG.rel [0,1,2,3,4,6] [10] [[],[],[],[],[],[],[],[5],[5,7],[5,7,8],[5,7,8,9]] [(46,5),(48,7),(49,8),(50,9)] [(5,fun vs _ => vs 5 = .int .i64 (yy + 200)),(7,fun vs _ => vs 7 = .pointer (some ⟨b + 1 + 1 + 1,(e + 1) * 802 + (yy + 200).toNat * 2,none⟩)),(8,fun vs _ => vs 8 = .agg #[.int .i64 (T (ix (e + 1) yy)).1,.int .i64 (T (ix (e + 1) yy)).2]),(9,fun vs _ => vs 9 = .agg #[.int .i64 (min cv.1 (T (ix (e + 1) yy)).1),.int .i64 (max cv.2 (T (ix (e + 1) yy)).2)])]
       (by kernel_rfl) (by kernel_rfl) (by kernel_rfl) (by decide) (by decide) (fun _ h => Below.trans ((Below.refl U.heap.size U).drew) h) ?hst ?hcg ?hstep ?hfin
      case hst => exact ⟨fun _ _ _ h _ => h,fun _ _ _ h _ => h,fun _ _ _ h _ => h,fun _ _ _ h _ => h,trivial⟩
      case hcg => exact ⟨fun _ _ _ he h => (he 5 (by simp)).trans h,fun _ _ _ he h => (he 7 (by simp)).trans h,fun _ _ _ he h => (he 8 (by simp)).trans h,fun _ _ _ he h => (he 9 (by simp)).trans h,trivial⟩
      case hstep =>
       refine ⟨?_,?_,?_,?_,trivial⟩
       ·rintro vs v1 - hv
        refine ⟨_,_,rfl,rfl,?_⟩
        clear hS
        simp only [RegRel.fillT,List.foldl_cons,List.foldl_nil,Sp4,Sp5,Sp6]
        go_simp
        refine (place_any yy _ (by omega) (by omega)).mono ?_
        rintro rr v2 ⟨rfl,rfl⟩
        first | exact ⟨rfl,Below.refl _ _,rfl⟩ | exact ⟨rfl,Below.refl _ _⟩ | exact Below.refl _ _ | trace_state
       ·rintro vs v1 ⟨h5,-⟩ hv
        refine ⟨_,_,rfl,rfl,?_⟩
        clear hS
        dsimp only at h5
        simp only [RegRel.fillT,List.foldl_cons,List.foldl_nil,Sp4,Sp5,Sp6]
        simp only [h5]
        clear h5
        have q1 : 0 ≤ yy + 200:=by omega
        have q2 : yy + 200 < 401:=by omega
        go_simp
        first | exact ⟨rfl,Below.refl _ _,rfl⟩ | exact ⟨rfl,Below.refl _ _⟩ | exact Below.refl _ _ | trace_state
       ·rintro vs v1 ⟨h5,h7,-⟩ hv
        refine ⟨_,_,rfl,rfl,?_⟩
        clear hS
        dsimp only at h5 h7
        simp only [RegRel.fillT,List.foldl_cons,List.foldl_nil,Sp4,Sp5,Sp6]
        simp only [h7]
        clear h5 h7
        have p0:=cellC (W:=U.drew) hv p0
        have p1:=cellC (W:=U.drew) hv p1
        go_simp
        first | exact ⟨rfl,Below.refl _ _,rfl⟩ | exact ⟨rfl,Below.refl _ _⟩ | exact Below.refl _ _ | trace_state
       ·rintro vs v1 ⟨h5,h7,h8,-⟩ hv
        refine ⟨_,_,rfl,rfl,?_⟩
        clear hS
        dsimp only at h5 h7 h8
        simp only [RegRel.fillT,List.foldl_cons,List.foldl_nil,Sp4,Sp5,Sp6]
        simp only [h8]
        clear h5 h7 h8
        go_simp
        refine (cover_any _ _ _ _ _).mono ?_
        rintro rr v2 ⟨rfl,hb2⟩
        first | exact ⟨rfl,hb2,rfl⟩ | exact ⟨rfl,hb2⟩ | exact hb2 | trace_state
      case hfin =>
       rintro vs v1 ⟨h5,h7,h8,h9,-⟩ hv
       clear hS
       dsimp only at h5 h7 h8 h9
       simp only [List.filter_cons,List.contains_cons,List.contains_nil,Nat.reduceBEq,Bool.or_false,Bool.not_false,if_true,List.filter_nil]
       simp only [RegRel.fillT,List.foldl_cons,List.foldl_nil,Sp4,Sp5,Sp6]
       simp only [h5,h7,h8,h9]
       clear h5 h7 h8 h9
       have hvW : Below U.heap.size U v1:=((Below.refl U.heap.size U).drew).trans hv
       have b11:=G11'.drew.call hv
       obtain ⟨t0',t1',tf',tz'⟩:=b11.two
       refine RegRel.wpOps_go rfl rfl ?_
       go_simp
       refine RegRel.wpOps_end ?_
       have e1 : covers (fun nx => T (ix (e + 1) nx)) ((pre' ++ [y]).map (·.1)) = cov cv (T (ix (e + 1) yy)):=by rw [List.map_append,List.map_cons,List.map_nil,covers_snoc,HCV.out,HY.out]
       have kf : ∀ B,KeepsFrom B U ((v1.setCell ⟨V.heap.size,0,none⟩ (.int .i64 (min cv.1 (T (ix (e + 1) yy)).1))).setCell ⟨V.heap.size,1,none⟩ (.int .i64 (max cv.2 (T (ix (e + 1) yy)).2))):=fun B => (keepsFrom_below hvW).trans (((KeepsOthers.setCell _ _ _).from _).trans ((KeepsOthers.setCell _ _ _).from _))
       rw [d5] at UK
       refine ⟨kf _,?_,?_,?_,UK.trans (kf _)⟩
       ·exact (Below.heap_setCell _ _ _ _ (by simp; omega)).trans ((Below.heap_setCell _ _ _ _ (by simp; omega)).trans (hvW.block _ (by omega)))
       ·show Bx _ _ 23 #[.int .i64 (covers (fun nx => T (ix (e + 1) nx)) ((pre' ++ [y]).map (·.1))).1,.int .i64 (covers (fun nx => T (ix (e + 1) nx)) ((pre' ++ [y]).map (·.1))).2]
        rw [e1]
        exact (b11.set_ 0 _).set_ 1 _
       ·exact ((UB.trans (hvW.mono UB.size)).setCell (p:=⟨V.heap.size,0,none⟩) (Nat.le_refl _) _).setCell (p:=⟨V.heap.size,1,none⟩) (Nat.le_refl _) _
     case done2 =>
      clear G11' FV4 FK4 hr4 hb4 hbi
      rintro ys' U hys ⟨b11,UB,UK⟩
      rw [hys] at b11
      obtain ⟨cv,hcv⟩ : ∃ cv,covers (fun nx => T (ix (e + 1) nx)) (rngL lo hi) = cv:=⟨_,rfl⟩
      rw [hcv] at b11
      have hj0 : decide (j = 0) = false:=by have:=HJE.out; simp; omega
      have hTb : ∀ i,Bd 1080000000 (T i):=fun i => by rw [← HT.out]; exact fill_Bd wt fol f n HWT.out j (by omega) _ e _ i
      have hcb : Bd 1080000000 cv:=by rw [← hcv]; exact covers_bd (by omega) _ (fun _ => hTb _) _
      have hrest : restOf fol (decide (j = 0)) e T xx = cv:=by unfold restOf; rw [hj0,HLO.out,HHI.out]; exact hcv
      have HJ0:=Lib.hid hj0
      clear hj0 hTb hcv
      obtain ⟨cb1,cb2,cb3,cb4⟩:=hcb
      have UKB : ∀ B,KeepsFrom B V U:=fun B => keepsFrom_below UB
      have UT:=DT.call UB
      have U5:=D5.call UB
      have U7:=D7.call UB
      have U9:=D9.call UB
      obtain ⟨t0,t1,tf,tz⟩:=b11.two
      obtain ⟨s0,sf,sz⟩:=U9.one
      obtain ⟨z0,zf,zz⟩:=U7.one
      obtain ⟨q0,qf,qz⟩:=U5.one
      have hwb:=HWT.out e xx
      obtain ⟨wb1,wb2,wb3,wb4⟩:=hwb
      have hixx : ix e xx < n * 401:=ix_lt hen (by omega) (by omega)
      have hen' : (e : Int) < (n : Int):=by omega
      have hpre : ∀ z ∈ pre.map (·.1),-200 ≤ z ∧ z ≤ 200:=by
       intro z hz
       obtain ⟨q,_,rfl⟩:=List.mem_map.1 hz
       have:=q.2
       omega
      have hbV0 : b ≤ V.heap.size:=by omega
      have hbU : b ≤ U.heap.size:=by have:=UB.size; omega
      gi_wp2_with fail
      refine AnyG.startIn (fun w' : World => Below U.heap.size U w') (fun i => i != 12) (by kernel_rfl) (by kernel_rfl) (fun _ _ h => h) ?_
      have hS : (fun w' : World => Below U.heap.size U w') (World.drew _):=(Below.refl _ _).drew
      refine AnyG.take (i:=0) (v:=?_) rfl (by kernel_rfl) (fun _ _ _ h => h) rfl ?_ hS ?_
      rotate_left
      ·(intro w' hSw; (try dsimp only at hSw); have z0:=cellC hSw z0; go_simp; try with_reducible rfl)
      try simp only [Act.put,Sp4,Sp5,Sp6]
      refine AnyG.take (i:=1) (v:=?_) rfl (by kernel_rfl) (fun _ _ _ h => h) rfl ?_ hS ?_
      rotate_left
      ·(intro w' hSw; (try dsimp only at hSw); have s0:=cellC hSw s0; go_simp; try with_reducible rfl)
      try simp only [Act.put,Sp4,Sp5,Sp6]
      refine AnyG.take (i:=2) (v:=?_) rfl (by kernel_rfl) (fun _ _ _ h => h) rfl ?_ hS ?_
      rotate_left
      ·(intro w' _; go_simp; try with_reducible rfl)
      try simp only [Act.put,Sp4,Sp5,Sp6]
      refine AnyG.take (i:=4) (v:=?_) rfl (by kernel_rfl) (fun _ _ _ h => h) rfl ?_ hS ?_
      rotate_left
      ·(intro w' hSw; (try dsimp only at hSw); have q0:=cellC hSw q0; go_simp; try with_reducible rfl)
      try simp only [Act.put,Sp4,Sp5,Sp6]
      refine AnyG.take (i:=5) (v:=?_) rfl (by kernel_rfl) (fun _ _ _ h => h) rfl ?_ hS ?_
      rotate_left
      ·(intro w' hSw; (try dsimp only at hSw); have s0:=cellC hSw s0; go_simp; try with_reducible rfl)
      try simp only [Act.put,Sp4,Sp5,Sp6]
      refine AnyG.take (i:=6) (v:=?_) rfl (by kernel_rfl) (fun _ _ _ h => h) rfl ?_ hS ?_
      rotate_left
      ·(intro w' _; go_simp; try with_reducible rfl)
      try simp only [Act.put,Sp4,Sp5,Sp6]
      refine AnyG.take (i:=8) (v:=?_) rfl (by kernel_rfl) (fun _ _ _ h => h) rfl ?_ hS ?_
      rotate_left
      ·(intro w' hSw; (try dsimp only at hSw); have t0:=cellC hSw t0; have t1:=cellC hSw t1; go_simp; try with_reducible rfl)
      try simp only [Act.put,Sp4,Sp5,Sp6]
      refine RegRel.AnyG.rel [0,1,2,4,5,6,8] [12] [[],[],[],[],[],[],[],[3],[],[3,7],[],[3,7,9,10],[3,7,9,10,11]] [(54,3),(58,7),(60,9),(61,10),(62,11)] [(3,fun vs _ => vs 3 = .int .i64 (xx + 200)),(7,fun vs _ => vs 7 = .agg #[.int .i64 (wt e xx).1,.int .i64 (wt e xx).2]),(9,fun vs _ => vs 9 = .agg #[.int .i64 ((wt e xx).1 + cv.1),.int .i64 ((wt e xx).2 + cv.2)]),(10,fun vs _ => vs 10 = .pointer (some ⟨b + 1 + 1 + 1,e * 802,none⟩)),(11,fun vs _ => vs 11 = .pointer (some ⟨b + 1 + 1 + 1,e * 802 + (xx + 200).toNat * 2,none⟩))]
       (by kernel_rfl) (by kernel_rfl) (by kernel_rfl) (by decide) (by decide) (fun _ h => Below.trans ((Below.refl U.heap.size U).drew) h) ?hst ?hcg ?hstep ?hfin
      case hst => exact ⟨fun _ _ _ h _ => h,fun _ _ _ h _ => h,fun _ _ _ h _ => h,fun _ _ _ h _ => h,fun _ _ _ h _ => h,trivial⟩
      case hcg => exact ⟨fun _ _ _ he h => (he 3 (by simp)).trans h,fun _ _ _ he h => (he 7 (by simp)).trans h,fun _ _ _ he h => (he 9 (by simp)).trans h,fun _ _ _ he h => (he 10 (by simp)).trans h,fun _ _ _ he h => (he 11 (by simp)).trans h,trivial⟩
      case hstep =>
       refine ⟨?_,?_,?_,?_,?_,trivial⟩
       ·rintro vs v1 - hv
        refine ⟨_,_,rfl,rfl,?_⟩
        clear hS
        simp only [RegRel.fillT,List.foldl_cons,List.foldl_nil,Sp4,Sp5,Sp6]
        go_simp
        refine (place_any xx _ (by omega) (by omega)).mono ?_
        rintro rr v2 ⟨rfl,rfl⟩
        first | exact ⟨rfl,Below.refl _ _,rfl⟩ | exact ⟨rfl,Below.refl _ _⟩ | exact Below.refl _ _ | trace_state
       ·rintro vs v1 ⟨h3,-⟩ hv
        refine ⟨_,_,rfl,rfl,?_⟩
        clear hS
        dsimp only at h3
        simp only [RegRel.fillT,List.foldl_cons,List.foldl_nil,Sp4,Sp5,Sp6]
        clear h3
        have hBv : Below w.heap.size w v1:=by rw [HBE.out]; exact (DB.trans (UB.mono hbV0)).trans ((((Below.refl U.heap.size U).drew).trans hv).mono hbU)
        go_simp
        refine (H97.out _ hBv e xx hen (by omega) (by omega)).mono ?_
        rintro rr v2 ⟨rfl,hb2⟩
        first | exact ⟨rfl,hb2,rfl⟩ | exact ⟨rfl,hb2⟩ | exact hb2 | trace_state
       ·rintro vs v1 ⟨h3,h7,-⟩ hv
        refine ⟨_,_,rfl,rfl,?_⟩
        clear hS
        dsimp only at h3 h7
        simp only [RegRel.fillT,List.foldl_cons,List.foldl_nil,Sp4,Sp5,Sp6]
        simp only [h7]
        clear h3 h7
        go_simp
        refine (plus_any _ _ _ _ _ (by omega) (by omega) (by omega) (by omega) (by omega) (by omega) (by omega) (by omega)).mono ?_
        rintro rr v2 ⟨rfl,hb2⟩
        first | exact ⟨rfl,hb2,rfl⟩ | exact ⟨rfl,hb2⟩ | exact hb2 | trace_state
       ·rintro vs v1 - hv
        refine ⟨_,_,rfl,rfl,?_⟩
        clear hS
        simp only [RegRel.fillT,List.foldl_cons,List.foldl_nil,Sp4,Sp5,Sp6]
        go_simp
        first | exact ⟨rfl,Below.refl _ _,rfl⟩ | exact ⟨rfl,Below.refl _ _⟩ | exact Below.refl _ _ | trace_state
       ·rintro vs v1 ⟨h3,h7,h9,h10,-⟩ hv
        refine ⟨_,_,rfl,rfl,?_⟩
        clear hS
        dsimp only at h3 h7 h9 h10
        simp only [RegRel.fillT,List.foldl_cons,List.foldl_nil,Sp4,Sp5,Sp6]
        simp only [h3,h10]
        clear h3 h7 h9 h10
        have q1 : 0 ≤ xx + 200:=by omega
        have q2 : xx + 200 < 401:=by omega
        go_simp
        first | exact ⟨rfl,Below.refl _ _,rfl⟩ | exact ⟨rfl,Below.refl _ _⟩ | exact Below.refl _ _ | trace_state
      case hfin =>
       rintro vs v1 ⟨h3,h7,h9,h10,h11,-⟩ hv
       clear hS
       dsimp only at h3 h7 h9 h10 h11
       simp only [List.filter_cons,List.contains_cons,List.contains_nil,Nat.reduceBEq,Bool.or_false,Bool.not_false,if_true,List.filter_nil]
       simp only [RegRel.fillT,List.foldl_cons,List.foldl_nil,Sp4,Sp5,Sp6]
       simp only [h3,h7,h9,h10,h11]
       clear h3 h7 h9 h10 h11
       have hvW : Below U.heap.size U v1:=((Below.refl U.heap.size U).drew).trans hv
       have UTv:=UT.drew.call hv
       have hoff : (ix e xx) * 2 = e * 802 + (xx + 200).toNat * 2:=by unfold ix; omega
       have p0:=(UTv.cell (e * 802 + (xx + 200).toNat * 2)).trans (parr_fst (n * 401) T hixx hoff.symm)
       have p1:=(UTv.cell (e * 802 + (xx + 200).toNat * 2 + 1)).trans (parr_snd (n * 401) T hixx (by omega))
       have pf:=UTv.free
       refine RegRel.wpOps_go rfl rfl ?_
       go_simp
       refine RegRel.wpOps_end ?_
       have kf : ∀ B,KeepsFrom B V ((v1.setCell ⟨b + 1 + 1 + 1,e * 802 + (xx + 200).toNat * 2,none⟩ (.int .i64 ((wt e xx).1 + cv.1))).setCell ⟨b + 1 + 1 + 1,e * 802 + (xx + 200).toNat * 2 + 1,none⟩ (.int .i64 ((wt e xx).2 + cv.2))):=fun B => (keepsFrom_below UB).trans ((keepsFrom_below hvW).trans (((KeepsOthers.setCell _ _ _).from _).trans ((KeepsOthers.setCell _ _ _).from _)))
       have hVv : Below V.heap.size V v1:=UB.trans (hvW.mono UB.size)
       refine ⟨kf _,?_,⟨⟨⟨⟨⟨⟨⟨⟨?_,?_⟩,?_⟩,?_⟩,?_⟩,?_⟩,?_⟩,?_⟩,?_⟩⟩
       ·exact (Below.heap_setCell _ _ _ _ (by simp <;> omega)).trans ((Below.heap_setCell _ _ _ _ (by simp <;> omega)).trans (hVv.block _ (by omega)))
       ·show Bx _ _ 135 (parr (n * 401) (fill wt fol (decide (j = 0)) e (Tab wt fol f n j) ((pre ++ [x]).map (·.1))))
        rw [List.map_append,List.map_cons,List.map_nil,HX.out,fill_val wt fol f n j e _ _ hpre xx,HT.out,hrest]
        have hs:=(UTv.set_ (e * 802 + (xx + 200).toNat * 2) (.int .i64 ((wt e xx).1 + cv.1))).set_ (e * 802 + (xx + 200).toNat * 2 + 1) (.int .i64 ((wt e xx).2 + cv.2))
        rw [parr_set (n * 401) T hixx hoff.symm] at hs
        exact hs
       ·exact ((D3.call hVv).far (by simp <;> omega) _).far (by simp <;> omega) _
       ·exact ((D4.call hVv).far (by simp <;> omega) _).far (by simp <;> omega) _
       ·exact ((D5.call hVv).far (by simp <;> omega) _).far (by simp <;> omega) _
       ·exact ((D7.call hVv).far (by simp <;> omega) _).far (by simp <;> omega) _
       ·exact ((D8.call hVv).far (by simp <;> omega) _).far (by simp <;> omega) _
       ·exact ((D9.call hVv).far (by simp <;> omega) _).far (by simp <;> omega) _
       ·exact DM.kept fun k o _ hk ho => (kf 0).same k o (Nat.zero_le _) hk ho
       ·exact ((DB.trans (hVv.mono hbV0)).setCell (p:=⟨b + 1 + 1 + 1,e * 802 + (xx + 200).toNat * 2,none⟩) (by simp <;> omega) _).setCell (p:=⟨b + 1 + 1 + 1,e * 802 + (xx + 200).toNat * 2 + 1,none⟩) (by simp <;> omega) _
     case stop2 =>
      rintro c pre' U _ h
      exact h.elim
    ·have hl1 : (n : Int) - 1 ≤ (e : Int):=by omega
     gi_wp2
     have hbV : b < V.heap.size:=D3.lt
     have hbT : b + 1 + 1 + 1 < V.heap.size:=DT.lt
     have hb8 : b + 1 + 1 + 1 + 1 + 1 < V.heap.size:=D8.lt
     have hg9V : g9 < V.heap.size:=D9.lt
     clear l0 l1 l2 l3 lf lz s0 sf sz v0 vf vz
     obtain ⟨cv,hcv⟩ : ∃ cv : Int × Int,(0,0) = cv:=⟨_,rfl⟩
     have hc1 : (0 : Int) = cv.1:=by rw [← hcv]
     have hc2 : (0 : Int) = cv.2:=by rw [← hcv]
     have b11 : Bx (V.alloc (.cells #[.int .i64 0,.int .i64 0] 23)) V.heap.size 23 #[.int .i64 cv.1,.int .i64 cv.2]:=by rw [← hc1,← hc2]; exact Bx.new _ _ _
     have UB : Below V.heap.size V (V.alloc (.cells #[.int .i64 0,.int .i64 0] 23)):=(Below.refl _ _).alloc (Nat.le_refl _) _
     obtain ⟨U,hU⟩ : ∃ U,V.alloc (.cells #[.int .i64 0,.int .i64 0] 23) = U:=⟨_,rfl⟩
     rw [hU] at b11 UB ⊢
     clear hU
     have hj0 : decide (j = 0) = true:=by have:=HJE.out; simp; omega
     have hrest : restOf fol (decide (j = 0)) e T xx = cv:=by unfold restOf; rw [hj0]; exact hcv
     have cb1 : -1080000000 ≤ cv.1 ∧ cv.1 ≤ 1080000000 ∧ -1080000000 ≤ cv.2 ∧ cv.2 ≤ 1080000000:=by omega
     clear hc1 hc2 hj0 hcv
     obtain ⟨cb1,cb2,cb3,cb4⟩:=cb1
     have UT:=DT.call UB
     have U5:=D5.call UB
     have U7:=D7.call UB
     have U9:=D9.call UB
     obtain ⟨t0,t1,tf,tz⟩:=b11.two
     obtain ⟨s0,sf,sz⟩:=U9.one
     obtain ⟨z0,zf,zz⟩:=U7.one
     obtain ⟨q0,qf,qz⟩:=U5.one
     have hwb:=HWT.out e xx
     obtain ⟨wb1,wb2,wb3,wb4⟩:=hwb
     have hixx : ix e xx < n * 401:=ix_lt hen (by omega) (by omega)
     have hen' : (e : Int) < (n : Int):=by omega
     have hpre : ∀ z ∈ pre.map (·.1),-200 ≤ z ∧ z ≤ 200:=by
      intro z hz
      obtain ⟨q,_,rfl⟩:=List.mem_map.1 hz
      have:=q.2
      omega
     have hbV0 : b ≤ V.heap.size:=by omega
     have hbU : b ≤ U.heap.size:=by have:=UB.size; omega
     refine AnyG.startIn (fun w' : World => Below U.heap.size U w') (fun i => i != 12) (by kernel_rfl) (by kernel_rfl) (fun _ _ h => h) ?_
     have hS : (fun w' : World => Below U.heap.size U w') (World.drew _):=(Below.refl _ _).drew
     refine AnyG.take (i:=0) (v:=?_) rfl (by kernel_rfl) (fun _ _ _ h => h) rfl ?_ hS ?_
     rotate_left
     ·(intro w' hSw; (try dsimp only at hSw); have z0:=cellC hSw z0; go_simp; try with_reducible rfl)
     try simp only [Act.put,Sp4,Sp5,Sp6]
     refine AnyG.take (i:=1) (v:=?_) rfl (by kernel_rfl) (fun _ _ _ h => h) rfl ?_ hS ?_
     rotate_left
     ·(intro w' hSw; (try dsimp only at hSw); have s0:=cellC hSw s0; go_simp; try with_reducible rfl)
     try simp only [Act.put,Sp4,Sp5,Sp6]
     refine AnyG.take (i:=2) (v:=?_) rfl (by kernel_rfl) (fun _ _ _ h => h) rfl ?_ hS ?_
     rotate_left
     ·(intro w' _; go_simp; try with_reducible rfl)
     try simp only [Act.put,Sp4,Sp5,Sp6]
     refine AnyG.take (i:=4) (v:=?_) rfl (by kernel_rfl) (fun _ _ _ h => h) rfl ?_ hS ?_
     rotate_left
     ·(intro w' hSw; (try dsimp only at hSw); have q0:=cellC hSw q0; go_simp; try with_reducible rfl)
     try simp only [Act.put,Sp4,Sp5,Sp6]
     refine AnyG.take (i:=5) (v:=?_) rfl (by kernel_rfl) (fun _ _ _ h => h) rfl ?_ hS ?_
     rotate_left
     ·(intro w' hSw; (try dsimp only at hSw); have s0:=cellC hSw s0; go_simp; try with_reducible rfl)
     try simp only [Act.put,Sp4,Sp5,Sp6]
     refine AnyG.take (i:=6) (v:=?_) rfl (by kernel_rfl) (fun _ _ _ h => h) rfl ?_ hS ?_
     rotate_left
     ·(intro w' _; go_simp; try with_reducible rfl)
     try simp only [Act.put,Sp4,Sp5,Sp6]
     refine AnyG.take (i:=8) (v:=?_) rfl (by kernel_rfl) (fun _ _ _ h => h) rfl ?_ hS ?_
     rotate_left
     ·(intro w' hSw; (try dsimp only at hSw); have t0:=cellC hSw t0; have t1:=cellC hSw t1; go_simp; try with_reducible rfl)
     try simp only [Act.put,Sp4,Sp5,Sp6]
     refine RegRel.AnyG.rel [0,1,2,4,5,6,8] [12] [[],[],[],[],[],[],[],[3],[],[3,7],[],[3,7,9,10],[3,7,9,10,11]] [(54,3),(58,7),(60,9),(61,10),(62,11)] [(3,fun vs _ => vs 3 = .int .i64 (xx + 200)),(7,fun vs _ => vs 7 = .agg #[.int .i64 (wt e xx).1,.int .i64 (wt e xx).2]),(9,fun vs _ => vs 9 = .agg #[.int .i64 ((wt e xx).1 + cv.1),.int .i64 ((wt e xx).2 + cv.2)]),(10,fun vs _ => vs 10 = .pointer (some ⟨b + 1 + 1 + 1,e * 802,none⟩)),(11,fun vs _ => vs 11 = .pointer (some ⟨b + 1 + 1 + 1,e * 802 + (xx + 200).toNat * 2,none⟩))]
      (by kernel_rfl) (by kernel_rfl) (by kernel_rfl) (by decide) (by decide) (fun _ h => Below.trans ((Below.refl U.heap.size U).drew) h) ?hst ?hcg ?hstep ?hfin
     case hst => exact ⟨fun _ _ _ h _ => h,fun _ _ _ h _ => h,fun _ _ _ h _ => h,fun _ _ _ h _ => h,fun _ _ _ h _ => h,trivial⟩
     case hcg => exact ⟨fun _ _ _ he h => (he 3 (by simp)).trans h,fun _ _ _ he h => (he 7 (by simp)).trans h,fun _ _ _ he h => (he 9 (by simp)).trans h,fun _ _ _ he h => (he 10 (by simp)).trans h,fun _ _ _ he h => (he 11 (by simp)).trans h,trivial⟩
     case hstep =>
      refine ⟨?_,?_,?_,?_,?_,trivial⟩
      ·rintro vs v1 - hv
       refine ⟨_,_,rfl,rfl,?_⟩
       clear hS
       simp only [RegRel.fillT,List.foldl_cons,List.foldl_nil,Sp4,Sp5,Sp6]
       go_simp
       refine (place_any xx _ (by omega) (by omega)).mono ?_
       rintro rr v2 ⟨rfl,rfl⟩
       first | exact ⟨rfl,Below.refl _ _,rfl⟩ | exact ⟨rfl,Below.refl _ _⟩ | exact Below.refl _ _ | trace_state
      ·rintro vs v1 ⟨h3,-⟩ hv
       refine ⟨_,_,rfl,rfl,?_⟩
       clear hS
       dsimp only at h3
       simp only [RegRel.fillT,List.foldl_cons,List.foldl_nil,Sp4,Sp5,Sp6]
       clear h3
       have hBv : Below w.heap.size w v1:=by rw [HBE.out]; exact (DB.trans (UB.mono hbV0)).trans ((((Below.refl U.heap.size U).drew).trans hv).mono hbU)
       go_simp
       refine (H97.out _ hBv e xx hen (by omega) (by omega)).mono ?_
       rintro rr v2 ⟨rfl,hb2⟩
       first | exact ⟨rfl,hb2,rfl⟩ | exact ⟨rfl,hb2⟩ | exact hb2 | trace_state
      ·rintro vs v1 ⟨h3,h7,-⟩ hv
       refine ⟨_,_,rfl,rfl,?_⟩
       clear hS
       dsimp only at h3 h7
       simp only [RegRel.fillT,List.foldl_cons,List.foldl_nil,Sp4,Sp5,Sp6]
       simp only [h7]
       clear h3 h7
       go_simp
       refine (plus_any _ _ _ _ _ (by omega) (by omega) (by omega) (by omega) (by omega) (by omega) (by omega) (by omega)).mono ?_
       rintro rr v2 ⟨rfl,hb2⟩
       first | exact ⟨rfl,hb2,rfl⟩ | exact ⟨rfl,hb2⟩ | exact hb2 | trace_state
      ·rintro vs v1 - hv
       refine ⟨_,_,rfl,rfl,?_⟩
       clear hS
       simp only [RegRel.fillT,List.foldl_cons,List.foldl_nil,Sp4,Sp5,Sp6]
       go_simp
       first | exact ⟨rfl,Below.refl _ _,rfl⟩ | exact ⟨rfl,Below.refl _ _⟩ | exact Below.refl _ _ | trace_state
      ·rintro vs v1 ⟨h3,h7,h9,h10,-⟩ hv
       refine ⟨_,_,rfl,rfl,?_⟩
       clear hS
       dsimp only at h3 h7 h9 h10
       simp only [RegRel.fillT,List.foldl_cons,List.foldl_nil,Sp4,Sp5,Sp6]
       simp only [h3,h10]
       clear h3 h7 h9 h10
       have q1 : 0 ≤ xx + 200:=by omega
       have q2 : xx + 200 < 401:=by omega
       go_simp
       first | exact ⟨rfl,Below.refl _ _,rfl⟩ | exact ⟨rfl,Below.refl _ _⟩ | exact Below.refl _ _ | trace_state
     case hfin =>
      rintro vs v1 ⟨h3,h7,h9,h10,h11,-⟩ hv
      clear hS
      dsimp only at h3 h7 h9 h10 h11
      simp only [List.filter_cons,List.contains_cons,List.contains_nil,Nat.reduceBEq,Bool.or_false,Bool.not_false,if_true,List.filter_nil]
      simp only [RegRel.fillT,List.foldl_cons,List.foldl_nil,Sp4,Sp5,Sp6]
      simp only [h3,h7,h9,h10,h11]
      clear h3 h7 h9 h10 h11
      have hvW : Below U.heap.size U v1:=((Below.refl U.heap.size U).drew).trans hv
      have UTv:=UT.drew.call hv
      have hoff : (ix e xx) * 2 = e * 802 + (xx + 200).toNat * 2:=by unfold ix; omega
      have p0:=(UTv.cell (e * 802 + (xx + 200).toNat * 2)).trans (parr_fst (n * 401) T hixx hoff.symm)
      have p1:=(UTv.cell (e * 802 + (xx + 200).toNat * 2 + 1)).trans (parr_snd (n * 401) T hixx (by omega))
      have pf:=UTv.free
      refine RegRel.wpOps_go rfl rfl ?_
      go_simp
      refine RegRel.wpOps_end ?_
      have kf : ∀ B,KeepsFrom B V ((v1.setCell ⟨b + 1 + 1 + 1,e * 802 + (xx + 200).toNat * 2,none⟩ (.int .i64 ((wt e xx).1 + cv.1))).setCell ⟨b + 1 + 1 + 1,e * 802 + (xx + 200).toNat * 2 + 1,none⟩ (.int .i64 ((wt e xx).2 + cv.2))):=fun B => (keepsFrom_below UB).trans ((keepsFrom_below hvW).trans (((KeepsOthers.setCell _ _ _).from _).trans ((KeepsOthers.setCell _ _ _).from _)))
      have hVv : Below V.heap.size V v1:=UB.trans (hvW.mono UB.size)
      refine ⟨kf _,?_,⟨⟨⟨⟨⟨⟨⟨⟨?_,?_⟩,?_⟩,?_⟩,?_⟩,?_⟩,?_⟩,?_⟩,?_⟩⟩
      ·exact (Below.heap_setCell _ _ _ _ (by simp <;> omega)).trans ((Below.heap_setCell _ _ _ _ (by simp <;> omega)).trans (hVv.block _ (by omega)))
      ·show Bx _ _ 135 (parr (n * 401) (fill wt fol (decide (j = 0)) e (Tab wt fol f n j) ((pre ++ [x]).map (·.1))))
       rw [List.map_append,List.map_cons,List.map_nil,HX.out,fill_val wt fol f n j e _ _ hpre xx,HT.out,hrest]
       have hs:=(UTv.set_ (e * 802 + (xx + 200).toNat * 2) (.int .i64 ((wt e xx).1 + cv.1))).set_ (e * 802 + (xx + 200).toNat * 2 + 1) (.int .i64 ((wt e xx).2 + cv.2))
       rw [parr_set (n * 401) T hixx hoff.symm] at hs
       exact hs
      ·exact ((D3.call hVv).far (by simp <;> omega) _).far (by simp <;> omega) _
      ·exact ((D4.call hVv).far (by simp <;> omega) _).far (by simp <;> omega) _
      ·exact ((D5.call hVv).far (by simp <;> omega) _).far (by simp <;> omega) _
      ·exact ((D7.call hVv).far (by simp <;> omega) _).far (by simp <;> omega) _
      ·exact ((D8.call hVv).far (by simp <;> omega) _).far (by simp <;> omega) _
      ·exact ((D9.call hVv).far (by simp <;> omega) _).far (by simp <;> omega) _
      ·exact DM.kept fun k o _ hk ho => (kf 0).same k o (Nat.zero_le _) hk ho
      ·exact ((DB.trans (hVv.mono hbV0)).setCell (p:=⟨b + 1 + 1 + 1,e * 802 + (xx + 200).toNat * 2,none⟩) (by simp <;> omega) _).setCell (p:=⟨b + 1 + 1 + 1,e * 802 + (xx + 200).toNat * 2 + 1,none⟩) (by simp <;> omega) _
   case done =>
    rintro D ys V hD hys ⟨⟨⟨⟨⟨⟨⟨⟨DT,D3⟩,D4⟩,D5⟩,D7⟩,D8⟩,D9⟩,DM⟩,DB⟩ hKD
    rw [hys] at DT
    have hTab : fill wt fol (decide (j = 0)) e (Tab wt fol f n j) (rngL k0 k1) = Tab wt fol f n (j + 1):=by
     rw [← HK0.out,← HK1.out,HJE.out]; rfl
    rw [hTab] at DT
    have DM':=DM.more (D:=D) (by omega) hKD (fun d hd D' he => by have:=hMlt d hd D' he; omega)
    clear DM hTab hKD
    obtain ⟨s0,sf,sz⟩:=D9.one
    have hwm : IntKind.i64.wrap ((e : Int) - 1) = (e : Int) - 1:=IntWalk.i64_in _ (by omega)
    go_wp2
    have hgV : b + 1 + 1 + 1 + 1 + 1 + 1 ≤ V.heap.size:=by have:=D9.lt; omega
    have hnj : (n : Int) - 1 - ((j + 1 : Nat) : Int) = (e : Int) - 1:=by have:=HE.out; push_cast; omega
    refine ⟨⟨j + 1,V.heap.size,_,_,_,_,_,_,_,_,_,_,by omega,rfl,DM'.call ((Below.refl _ _).alloc (Nat.le_refl _) _),hgV,D3.alloc _,D4.alloc _,D5.alloc _,DT.alloc _,D7.alloc _,D8.alloc _,by rw [hnj]; exact Bx.new _ _ _,DB.alloc (by omega) _⟩,?_⟩
    refine Nat.lt_of_lt_of_eq ?_ HWL.out.symm
    show (match (V.alloc (.cells #[.int .i64 ((e : Int) - 1)] 3)).cell? ⟨V.heap.size,0,none⟩ with | some (Value.int _ i) => (i + 1).toNat | _ => 0) < _
    rw [(Bx.new V 3 #[.int .i64 ((e : Int) - 1)]).cell 0]
    show ((e : Int) - 1 + 1).toNat < e + 1
    omega
   case stop =>
    rintro D c pre W _ _ h _
    exact h.elim
  ·obtain rfl : j = n:=by omega
   have hlt : (j : Int) - 1 - j < 0:=by omega
   obtain ⟨z0,zf,zz⟩:=B7.one
   obtain ⟨s0,sf,sz⟩:=B9.one
   have hz1 : (j : Int) - 1 - j = -1:=by omega
   rw [hz1] at s0
   go_wp2
   refine leavesM_marks (B:=b) ds W hM fun W' hb hk _ => ?_
   refine ⟨_,results_tmp rfl _ _ _,⟨b + 1 + 1 + 1,rfl,by have:=HBE.out; omega,(hk _ (hM.ne BT)).trans BT⟩,?_⟩
   rw [HBE.out]
   exact hB.trans hb
end Go.Proofs.Ytgbogdckmfencaa
