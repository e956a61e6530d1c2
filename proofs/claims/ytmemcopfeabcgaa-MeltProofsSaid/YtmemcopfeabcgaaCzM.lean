/- The iterator of melt.box.blends, as a contract. -/
import Derived.Test.YtmemcopfeabcgaaRbM
import Derived.Test.YtmemcopfeabcgaaBlM
import Derived.ArgAppend
import Derived.OwnWalk
import Derived.Test.YtmemcopfeabcgaaOaM
import Derived.Test.YtmemcopfeabcgaaLxM
set_option linter.unusedSimpArgs false
set_option linter.unusedVariables false
namespace Go.Proofs.Ytmemcopfeabcgaa
open Go Go.RowKit Go.Shelf
attribute [local go_sem] Oper.semAt_some
def SameBox (g : Nat) (A B : World) : Prop:=B.heap[g]? = A.heap[g]?
theorem grown_below {w w' : World} {row : Option Nat} (h : Below w.heap.size w w') : w.grownBy w' row:=⟨h.os,h.tape,h.output,h.size,fun k hk _ => h.block k hk⟩
/-- The number of the blend that a box holds. -/
def rkW (lo hi : Nat → Int) (w : World) (g : Nat) : Int:=rk lo hi (fun i => intOf ((w.cell? ⟨g,i,none⟩).getD undef))
theorem rkW_eq {lo hi d : Nat → Int} {w : World} {g : Nat} (h : Bx w g 81 (barr d)) : rkW lo hi w g = rk lo hi d:=by
 have e : ∀ i,i < 4 → intOf ((w.cell? ⟨g,i,none⟩).getD undef) = d i:=fun i hi => by rw [h.cell i,barr_get d hi]; rfl
 unfold rkW rk
 dsimp only
 rw [e 0 (by omega),e 1 (by omega),e 2 (by omega),e 3 (by omega)]
theorem grown_set (w : World) (g i : Nat) (v : Value) : w.grownBy (w.setCell ⟨g,i,none⟩ v) (some g) :=
 ⟨rfl,rfl,rfl,by simp [World.setCell],fun k hk hne => Below.heap_setCell w ⟨g,i,none⟩ v k (fun e => hne (by rw [e]))⟩
/-- Four stores into a box of four. -/
def st4 (w : World) (g : Nat) (d : Nat → Int) : World:=(((w.setCell ⟨g,0,none⟩ (.int .i64 (d 0))).setCell ⟨g,1,none⟩ (.int .i64 (d 1))).setCell ⟨g,2,none⟩ (.int .i64 (d 2))).setCell ⟨g,3,none⟩ (.int .i64 (d 3))
theorem st4_size (w : World) (g : Nat) (d : Nat → Int) : (st4 w g d).heap.size = w.heap.size:=by simp [st4,World.setCell]
theorem st4_grown (w : World) (g : Nat) (d : Nat → Int) : w.grownBy (st4 w g d) (some g) :=
 ⟨rfl,rfl,rfl,by rw [st4_size]; exact Nat.le_refl _,fun k hk hne => by
  have hne' : k ≠ g:=fun e => hne (by rw [e])
  unfold st4
  rw [Below.heap_setCell _ _ _ k hne',Below.heap_setCell _ _ _ k hne',Below.heap_setCell _ _ _ k hne',Below.heap_setCell _ _ _ k hne']⟩
theorem st4_box {w : World} {g : Nat} {f d : Nat → Int} (h : Bx w g 81 (barr f)) : Bx (st4 w g d) g 81 (barr d):=by
 rw [barr_def] at h
 have:=(((h.set_ 0 (.int .i64 (d 0))).set_ 1 (.int .i64 (d 1))).set_ 2 (.int .i64 (d 2))).set_ 3 (.int .i64 (d 3))
 rw [barr_def]
 simpa [st4] using this
theorem st4_far {w : World} {g k : Nat} {t : TypeId} {cs : Array Value} {d : Nat → Int} (h : Bx w k t cs) (hne : k ≠ g) : Bx (st4 w g d) k t cs :=
 (((h.far (p:=⟨g,0,none⟩) hne _).far (p:=⟨g,1,none⟩) hne _).far (p:=⟨g,2,none⟩) hne _).far (p:=⟨g,3,none⟩) hne _
set_option maxRecDepth 100000 in
set_option maxHeartbeats 2000000 in
theorem blends_in (n : Nat) (hn : 2 ≤ n) (g0 : Nat) (lo hi : Nat → Int) (hbx : BoxOk lo hi) (w0 : World) (hB0 : Bx w0 g0 91 (xarr lo hi)) :
  SeqBx Fence.wide n Try.prog 84 #[.pointer (some ⟨g0,0,none⟩)] (fun x : BB lo hi => #[.agg (barr x.1)]) (SameBox g0) (fun xs => Ranked lo hi xs ∧ (xs.length : Int) = tot lo hi) (tot lo hi).toNat w0:=by
 intro l J W hW hJ hY h0
 have k1:=hB0.below hW hB0.lt
 have hg0 : g0 < W.heap.size:=k1.lt
 obtain ⟨p0,p1,p2,p3,p4,p5,p6,p7,pf,pz⟩:=k1.xarr
 refine callsIn_of_wp Try.func84 rfl trivial ?_ rfl
 simp only [Try.ntmps84,List.size_toArray,List.length_cons,List.length_nil,Nat.reduceAdd,Nat.reduceSub,Array.replicate_succ,Array.replicate_zero,List.push_toArray,List.append_toArray,List.nil_append,List.cons_append]
 gi_wp2_with fail
 refine ⟨trivial,fun h => by simp [Fence.wide] at h,?_⟩
 rw [← xarr_def lo hi]
 refine (callsIn_wide.2 (least_any lo hi _)).mono ?_
 rintro e w1 ⟨rfl,hb1⟩
 have k2:=(k1.call hb1).alloc (.cells (barr lo) 81)
 have kn:=Bx.new w1 81 (barr lo)
 have hb2:=hb1.alloc hb1.size (.cells (barr lo) 81)
 obtain ⟨w2,hw2⟩ : ∃ w2,w1.alloc (.cells (barr lo) 81) = w2:=⟨_,rfl⟩
 rw [hw2] at k2 kn hb2
 have hJ0:=h0 w2 hb2
 have hsz : w2.heap.size = w1.heap.size + 1:=by rw [← hw2]; simp
 have hgw:=hb1.size
 have HY:=Lib.hid hY
 have HJ:=Lib.hid hJ
 have HW2:=Lib.hid (barr_def lo ▸ hw2)
 clear k1 hY hJ h0 hw2 p0 p1 p2 p3 p4 p5 p6 p7 pf pz
 rw [barr_def lo]
 gi_wp2_with fail
 rw [HW2.out]
 gi_loopw [4] (fun v wr => ∃ (t : Bool) (pre : List (BB lo hi)) (d : Nat → Int),v = .bool t ∧ Hid (Ranked lo hi pre ∧ (t = true → InB lo hi d ∧ rk lo hi d = pre.length) ∧ (t = false → (pre.length : Int) = tot lo hi)) ∧ Bx wr w1.heap.size 81 (barr d) ∧ Bx wr g0 91 (xarr lo hi) ∧ J w2.heap.size pre wr ∧ w2.heap.size ≤ wr.heap.size) (fun v wr => match v with | .bool true => (tot lo hi - rkW lo hi wr w1.heap.size).toNat | _ => 0)
 case atStart => exact ⟨true,[],lo,rfl,Lib.hid ⟨fun k x h => by simp at h,fun _ => ⟨fun i hi4 => ⟨Int.le_refl _,hbx.le i hi4⟩,by rw [rk_least]; rfl⟩,fun h => by cases h⟩,kn,k2,hJ0,Nat.le_refl _⟩
 case round =>
  clear hJ0 kn k2
  obtain ⟨t,pre,d,rfl,hst,kb,kx,hj,hsw⟩:=hrel
  cases t with
  | false =>
   gi_wp2_with fail
   refine ⟨fun f h => (by cases h),?_⟩
   gi_wp2_with fail
   go_end0
   exact ⟨⟨_,rfl⟩,w2.heap.size,pre,⟨hst.out.1,hst.out.2.2 (by first | trivial | rfl)⟩,hj,by omega,hsw⟩
  | true =>
   obtain ⟨hin,hrk⟩:=hst.out.2.1 rfl
   have hlt:=rk_lt hin
   have hd6:=hin.six hbx
   have hmeas:=rkW_eq (lo:=lo) (hi:=hi) kb
   obtain ⟨fn,tmps,assign,body,hy,hR⟩:=HY.out w2.heap.size pre ⟨d,hin⟩ wr (by omega) hsw hj (by omega)
   dsimp only at hy
   rw [barr_def] at hy
   obtain ⟨b0,b1,b2,b3,bf,bz⟩:=kb.barr
   obtain ⟨p0,p1,p2,p3,p4,p5,p6,p7,pf,pz⟩:=kx.xarr
   have HST:=Lib.hid (⟨hst.out.1,hin,hrk,hlt⟩ : Ranked lo hi pre ∧ InB lo hi d ∧ rk lo hi d = pre.length ∧ rk lo hi d < tot lo hi)
   have HM:=Lib.hid hmeas
   have HHD:=Lib.hid hd6
   clear hmeas hst hrk hlt hd6
   gi_wp2_with fail
   refine ⟨fun h => by simp [Fence.wide] at h,hR.mono ?_⟩
   rintro e W3 ⟨rfl,hJ3,hk3,hsb3⟩
   have kb3 : Bx W3 w1.heap.size 81 (barr d):=(hk3.same _ (by omega) (by omega)).trans kb
   have kx3 : Bx W3 g0 91 (xarr lo hi):=Eq.trans hsb3 kx
   have hs3:=hk3.size
   clear kb kx b0 b1 b2 b3 bf bz p0 p1 p2 p3 p4 p5 p6 p7 pf pz hR hy hj hk3 hsb3
   obtain ⟨b0,b1,b2,b3,bf,bz⟩:=kb3.barr
   obtain ⟨p0,p1,p2,p3,p4,p5,p6,p7,pf,pz⟩:=kx3.xarr
   cases haft : aft lo hi d with
   | none =>
    have HA : Hid (aftV lo hi d = .tuple #[.agg (barr d),.bool false]):=by unfold Hid aftV; rw [haft]
    have hend:=aft_none hin haft
    gi_wp2_with fail
    refine ⟨trivial,fun h => by simp [Fence.wide] at h,?_⟩
    rw [← xarr_def lo hi,← barr_def d]
    refine (callsIn_wide.2 (after_any lo hi d _ HHD.out)).mono ?_
    rintro e w4 ⟨rfl,hb4⟩
    rw [HA.out,barr_def d]
    have kb4:=kb3.call hb4
    have kx4:=kx3.call hb4
    have hJ4:=HJ.out _ _ _ _ none hJ3 (by omega) (grown_below hb4) (fun r e => by cases e)
    have hs4:=hb4.size
    clear b0 b1 b2 b3 bf bz p0 p1 p2 p3 p4 p5 p6 p7 pf pz
    obtain ⟨b0,b1,b2,b3,bf,bz⟩:=kb4.barr
    gi_wp2_with fail
    have kb5:=st4_box (d:=d) kb4
    have kx5:=st4_far (d:=d) kx4 (show g0 ≠ w1.heap.size by omega)
    have hJ5:=HJ.out _ _ _ _ (some w1.heap.size) hJ4 (by omega) (st4_grown w4 w1.heap.size d) (fun r e => by cases e; omega)
    have hz5:=st4_size w4 w1.heap.size d
    unfold st4 at kb5 kx5 hJ5 hz5
    refine ⟨⟨false,pre ++ [⟨d,hin⟩],d,rfl,Lib.hid ⟨HST.out.1.snoc HST.out.2.2.1,(fun h => by cases h),fun _ => by have:=HST.out.2.2.1; simp; omega⟩,kb5,kx5,hJ5,by omega⟩,?_⟩
    dsimp only
    rw [HM.out]
    have:=HST.out
    omega
   | some d' =>
    have HA : Hid (aftV lo hi d = .tuple #[.agg (barr d'),.bool true]):=by unfold Hid aftV; rw [haft]
    have HN:=Lib.hid (aft_rk hin haft)
    clear haft
    gi_wp2_with fail
    refine ⟨trivial,fun h => by simp [Fence.wide] at h,?_⟩
    rw [← xarr_def lo hi,← barr_def d]
    refine (callsIn_wide.2 (after_any lo hi d _ HHD.out)).mono ?_
    rintro e w4 ⟨rfl,hb4⟩
    rw [HA.out,barr_def d']
    have kb4:=kb3.call hb4
    have kx4:=kx3.call hb4
    have hJ4:=HJ.out _ _ _ _ none hJ3 (by omega) (grown_below hb4) (fun r e => by cases e)
    have hs4:=hb4.size
    clear b0 b1 b2 b3 bf bz p0 p1 p2 p3 p4 p5 p6 p7 pf pz
    obtain ⟨b0,b1,b2,b3,bf,bz⟩:=kb4.barr
    gi_wp2_with fail
    have kb5:=st4_box (d:=d') kb4
    have kx5:=st4_far (d:=d') kx4 (show g0 ≠ w1.heap.size by omega)
    have hJ5:=HJ.out _ _ _ _ (some w1.heap.size) hJ4 (by omega) (st4_grown w4 w1.heap.size d') (fun r e => by cases e; omega)
    have hz5:=st4_size w4 w1.heap.size d'
    unfold st4 at kb5 kx5 hJ5 hz5
    refine ⟨⟨true,pre ++ [⟨d,hin⟩],d',rfl,Lib.hid ⟨HST.out.1.snoc HST.out.2.2.1,(fun _ => ⟨HN.out.2,by have:=HN.out.1; have:=HST.out.2.2.1; simp; omega⟩),fun h => by cases h⟩,kb5,kx5,hJ5,by omega⟩,?_⟩
    dsimp only
    have hm2:=rkW_eq (lo:=lo) (hi:=hi) kb5
    rw [HM.out,hm2,HN.out.1]
    have:=HST.out
    omega
end Go.Proofs.Ytmemcopfeabcgaa

/-! slices.Clone of a row of numbers. -/
namespace Go.Proofs.Ytmemcopfeabcgaa
open Go Go.RowKit
theorem own_shape {w : World} {b : Nat} {e : TypeId} {s : Nat} {v : Value} {n : Nat} {xs : List Value} (h : w.ownsRow b e s v n xs) : ∃ A c,v = .slice A n c:=by
 rcases h.2 with ⟨rfl,rfl⟩ | ⟨g,cap,cur,rfl,_⟩
 ·exact ⟨none,0,rfl⟩
 ·exact ⟨_,_,rfl⟩
theorem nil_no (a : Addr) (n c : Nat) (w : World) : (binOp .eql 22 (.slice (some a) n c) (.slice none 0 0)).run Try.prog w = .ok (.bool false) w:=by kernel_rfl
theorem nil_yes (w : World) : (binOp .eql 22 (.slice none 0 0) (.slice none 0 0)).run Try.prog w = .ok (.bool true) w:=by kernel_rfl
theorem info3' : (Try.prog.info? 3).map (fun i => (i.zero,i.size,i.bytes)) = some (some (.int .i64 0),1,8):=by kernel_rfl
set_option maxRecDepth 100000 in
set_option maxHeartbeats 1000000 in
theorem clone_any (a : Addr) (n c : Nat) (xs : List Value) (w : World) (hn : n ≤ 1000) (hlen : xs.length = n * 1) (h1c : ∀ u ∈ xs,u.oneCell' = true) (hcs0 : ∀ j u,xs[j]? = some u → w.cell? (a.add j) = some u) :
  Calls Try.prog 61 #[.slice (some a) n c] w fun e w' => (∃ A' c',e = .returned (.slice A' n c') ∧ w'.ownsRow w.heap.size 3 1 (.slice A' n c') n xs) ∧ Below w.heap.size w w':=by
 obtain ⟨i3,hi3,hz3,hs3,iy3⟩:=info_parts info3'
 have hb0 : Below w.heap.size w (w.alloc (.cells #[] 3)):=(Below.refl _ _).alloc (Nat.le_refl _) _
 have how:=World.ownsRow_made (w:=w) (base:=w.heap.size) (e:=3) (size:=1) #[] 0 (Nat.le_refl _) (by unfold maxLen; omega) (by simp)
 have hcs : ∀ j u,xs[j]? = some u → (w.alloc (.cells #[] 3)).cell? (a.add j) = some u:=fun j u hu => cellA (hcs0 j u hu)
 have hnil:=nil_no a n c
 go_enter Try.func61,Try.ntmps61
 go_wp2_with (first
  | (at_builtin; refine wpList_append_own _ rfl (.tmp 5) (.tmp 6) 22 rfl w.heap.size 3 i3 _ 1 8 Try.underlying22 hi3 hz3 hs3 iy3 rfl (by decide) (.slice (some ⟨w.heap.size,0,none⟩) 0 0) 0 [] rfl how a n c xs rfl hlen hcs h1c (by unfold maxLen; omega) (by omega) (by simp <;> omega) ?_; intro v' w' o1 o2 o3; obtain ⟨A',C',rfl⟩:=own_shape o1)
  | fail)
 have hB : Below w.heap.size w w':=hb0.grown o2 hb0.size (fun k e => by simp [Value.ownBlock] at e <;> omega)
 go_ret
 exact ⟨⟨_,_,rfl,by simpa using o1⟩,hB⟩
end Go.Proofs.Ytmemcopfeabcgaa

/-! In a round of a range over a function: a region that draws its order, by the laws of Reg and Rl. -/
namespace Go.Proofs.Ytmemcopfeabcgaa
open Go Go.RowKit Go.Shelf
section
variable {P : Program} {ops : Array Oper} {Q : Exit → Act → World → Prop} {S : World → Prop} {G : Nat → Bool} {l n : Nat}
/-- The marks that ranges over functions have left among the deferred calls: each a block of its own, with no call in it. -/
def Marks (B : Nat) (W : World) (ds : List Deferred) : Prop:=∃ Ds : List Nat,ds = Ds.map (fun D => { target:=.collected D,args:=#[] }) ∧ Ds.Nodup ∧ ∀ D ∈ Ds,B ≤ D ∧ W.heap[D]? = some (.deferred (some []))
theorem Marks.nil (B : Nat) (W : World) : Marks B W []:=⟨[],rfl,List.nodup_nil,fun _ h => by cases h⟩
theorem Marks.kept {B : Nat} {W W' : World} {ds : List Deferred} (h : Marks B W ds) (hk : ∀ (k : Nat) (o : Obj),B ≤ k → W.heap[k]? = some o → o.isCells = false → W'.heap[k]? = some o) : Marks B W' ds:=by
 obtain ⟨Ds,h1,h2,h3⟩:=h
 exact ⟨Ds,h1,h2,fun D hD => ⟨(h3 D hD).1,hk D _ (h3 D hD).1 (h3 D hD).2 rfl⟩⟩
theorem Marks.call {B : Nat} {W W' : World} {ds : List Deferred} (h : Marks B W ds) (hb : Below W.heap.size W W') : Marks B W' ds :=
 h.kept fun k _ _ ho _ => (hb.block k (Array.getElem?_eq_some_iff.1 ho).1).trans ho
theorem Marks.more {B D : Nat} {W : World} {ds : List Deferred} (h : Marks B W ds) (hB : B ≤ D) (hD : W.heap[D]? = some (.deferred (some []))) (hn : ∀ d ∈ ds,∀ D',d.target = .collected D' → D' ≠ D) : Marks B W ({ target:=.collected D,args:=#[] } :: ds):=by
 obtain ⟨Ds,rfl,h2,h3⟩:=h
 refine ⟨D :: Ds,rfl,List.nodup_cons.2 ⟨fun hm => hn _ (List.mem_map_of_mem hm) D rfl rfl,h2⟩,fun D' hD' => ?_⟩
 rcases List.mem_cons.1 hD' with rfl | h
 ·exact ⟨hB,hD⟩
 ·exact h3 D' h
theorem Marks.lt {B : Nat} {W : World} {ds : List Deferred} (h : Marks B W ds) : ∀ d ∈ ds,∀ D',d.target = .collected D' → D' < W.heap.size:=by
 obtain ⟨Ds,rfl,h2,h3⟩:=h
 intro d hd D' e
 obtain ⟨D,hD,rfl⟩:=List.mem_map.1 hd
 injection e with e
 exact e ▸ (Array.getElem?_eq_some_iff.1 (h3 D hD).2).1
/-- A function leaves through its marks. -/
theorem leavesM_marks {fn : Func} {tmps : Array Value} {R : Ending → World → Prop} {F : Fence} {B : Nat} : ∀ (ds : List Deferred) (W : World),Marks B W ds →
  (∀ W',Below B W W' → (∀ k,(∀ d ∈ ds,d.target ≠ .collected k) → W'.heap[k]? = W.heap[k]?) → W'.heap.size = W.heap.size → ∃ v,(results fn tmps).run P W' = .ok v W' ∧ R (.returned v) W') → LeavesInM F n P fn tmps R ds .returning W:=by
 intro ds
 induction ds with
 | nil => intro W _ h; exact h W (Below.refl _ _) (fun _ _ => rfl) rfl
 | cons d ds ih =>
  intro W hM h
  obtain ⟨Ds,e,h2,h3⟩:=hM
  cases Ds with
  | nil => cases e
  | cons D Ds =>
   simp only [List.map_cons,List.cons.injEq] at e
   obtain ⟨rfl,rfl⟩:=e
   rw [List.nodup_cons] at h2
   have hD:=h3 D (by simp)
   have hlt:=(Array.getElem?_eq_some_iff.1 hD.2).1
   refine ⟨by simp,.inl ⟨D,_,rfl,run_takeDeferred hD.2,ih _ ⟨Ds,rfl,h2.2,fun D' hD' => ⟨(h3 D' (List.mem_cons_of_mem _ hD')).1,?_⟩⟩ fun W' hb hk hs => ?_⟩⟩
   ·rw [World.putObj_heap_other (fun e : D' = D => h2.1 (by rw [← e]; exact hD'))]; exact (h3 D' (List.mem_cons_of_mem _ hD')).2
   ·refine h W' (((Below.refl B W).grown (grownBy_putObj' W D (.deferred none)) (by omega) (fun k e => by cases e; exact hD.1)).trans hb) (fun k hk' => ?_) (hs.trans (by simp [World.putObj]))
    rw [hk k (fun d hd => hk' d (List.mem_cons_of_mem _ hd)),World.putObj_heap_other (fun e => hk' _ (List.mem_cons_self ..) (by rw [e]))]
end
end Go.Proofs.Ytmemcopfeabcgaa

/-! melt.Keeps and Weigh of good lists. -/
namespace Go.Proofs.Ytmemcopfeabcgaa
open Go Go.RowKit
set_option maxRecDepth 100000 in
set_option maxHeartbeats 1000000 in
theorem keeps_ok (LA : Option Addr) (ln lc : Nat) (BA : Option Addr) (bn bc : Nat) (o : Od) (A : Option Addr) (n c : Nat) (L : List Int) (w : World) (hln : ln ≤ 9223372036854775807) (hbn : bn ≤ 9223372036854775807) (hl : o.lm.length = ln) (hb' : o.bs.length = bn) (hA : OrdAt w w.heap.size LA BA o) (hn : n ≤ 9223372036854775807) (hL : L.length = n) (hS0 : Sl w w.heap.size 1 A (inr L)) (hz : ckBl o L = 0) :
  Calls Try.prog 16 #[.agg #[.slice LA ln lc,.int .i64 o.le,.int .i64 o.mo,.slice BA bn bc],.slice A n c] w fun e w' => e = .returned (.tuple #[.int .i64 (kv o (lf L)),.int .i64 0]) ∧ Below w.heap.size w w':=by
 have K0:=Bx.new w 27 #[.slice LA ln lc,.int .i64 o.le,.int .i64 o.mo,.slice BA bn bc]
 have B0:=(Below.refl w.heap.size w).alloc (Nat.le_refl _) (.cells #[.slice LA ln lc,.int .i64 o.le,.int .i64 o.mo,.slice BA bn bc] 27)
 have hok:=ckBl_zero hz
 have hC:=checkBlend_any LA ln lc o.le o.mo BA bn bc o A n c L (w.alloc (.cells #[.slice LA ln lc,.int .i64 o.le,.int .i64 o.mo,.slice BA bn bc] 27)) hln hbn hl hb' rfl rfl ((hA.below B0).more B0.size) (fun b hb => by have:=(hok.ok.bs b hb).len; omega) hn hL ((hS0.below B0).more B0.size)
 have HB:=Lib.hid hb'
 have HL:=Lib.hid hl
 have HN:=Lib.hid hL
 rw [hz] at hC
 clear hz hb' hl hL
 have HO:=Lib.hid hok.ok
 have HS6:=Lib.hid hok.six
 obtain rfl : bn = n:=by rw [← HN.out,← HB.out]; exact hok.len.symm
 have hb1 : 1 ≤ bn:=by rw [← HB.out]; exact hok.ok.b1
 have hb4 : bn ≤ 4:=by rw [← HB.out]; exact hok.ok.b2
 clear hok
 obtain ⟨R,hR⟩ : ∃ R,kv o (lf L) = R:=⟨_,rfl⟩
 rw [hR]
 have HR:=Lib.hid hR
 clear hR
 go_enter Try.func16,Try.ntmps16
 go_wp2_with (go_at_call 48; refine hC.mono ?_; rintro e w1 ⟨rfl,hb⟩; replace K0:=K0.call hb; replace B0:=B0.trans (hb.mono B0.size); obtain ⟨c0,c1,c2,c3,cf,cz⟩:=K0.four)
 refine AnyG.startC (by kernel_rfl) ?_
 refine AnyG.takeP (i:=1) (v:=?_) rfl (by kernel_rfl) (fun _ _ _ h => h) rfl ?_ ?_
 rotate_left
 ·(intro w'; go_simp; try with_reducible rfl)
 try simp only [Act.put,Sp1,Sp2,Sp3,Sp4,Sp5,Sp6]
 refine AnyG.enter (fun w' : World => Below w1.heap.size w1 w') (fun i => true) ?_
 have hS : (fun w' : World => Below w1.heap.size w1 w') (World.drew _):=(Below.refl _ _).drew
 refine AnyG.takeC (i:=0) (v:=?_) rfl (by kernel_rfl) (fun _ _ _ h => h) rfl ?_ hS ?_
 rotate_left
 ·(intro w' hSw; (try dsimp only at hSw); have c0:=cellC hSw c0; have c1:=cellC hSw c1; have c2:=cellC hSw c2; have c3:=cellC hSw c3; go_simp; try with_reducible rfl)
 try simp only [Act.put,Sp1,Sp2,Sp3,Sp4,Sp5,Sp6]
 refine AnyG.one (i:=2) (by kernel_rfl) rfl rfl ?_
 go_simp
 refine (blendOf_any A bn c L _ HN.out (by omega) (by omega) ((hS0.below (B0.trans (hS.mono B0.size))).more (B0.trans (hS.mono B0.size)).size)).mono ?_
 rintro e2 y2 ⟨rfl,hq2⟩
 have hT:=hS.trans (hq2.mono hS.size)
 clear hS
 have hS:=hT
 clear hT
 refine Onward.on hS (fun hS2 => ?_)
 clear hS
 have hS:=hS2
 clear hS2
 try simp only [Act.put,Sp1,Sp2,Sp3,Sp4,Sp5,Sp6]
 refine AnyG.one (i:=3) (by kernel_rfl) rfl rfl ?_
 go_simp
 refine (keeps_any LA ln lc BA bn bc o (lf L) _ HL.out HB.out ((hA.below (B0.trans (hS.mono B0.size))).more (B0.trans (hS.mono B0.size)).size) HO.out HS6.out).mono ?_
 rintro e3 y3 ⟨rfl,hq3⟩
 rw [HR.out]
 have hT:=hS.trans (hq3.mono hS.size)
 clear hS
 have hS:=hT
 clear hT
 refine Onward.on hS (fun hS2 => ?_)
 clear hS
 have hS:=hS2
 clear hS2
 try simp only [Act.put,Sp1,Sp2,Sp3,Sp4,Sp5,Sp6]
 refine AnyG.takeC (i:=4) (v:=?_) rfl (by kernel_rfl) (fun _ _ _ h => h) rfl ?_ hS ?_
 rotate_left
 ·(intro w' hSw; (try dsimp only at hSw); go_simp; try with_reducible rfl)
 try simp only [Act.put,Sp1,Sp2,Sp3,Sp4,Sp5,Sp6]
 refine AnyG.takeC (i:=5) (v:=?_) rfl (by kernel_rfl) (fun _ _ _ h => h) rfl ?_ hS ?_
 rotate_left
 ·(intro w' hSw; (try dsimp only at hSw); go_simp; try with_reducible rfl)
 try simp only [Act.put,Sp1,Sp2,Sp3,Sp4,Sp5,Sp6]
 refine AnyG.done (by kernel_rfl) ?_ _
 go_simp
 go_wp2_with fail
 refine bodyPost_ret (v:=.tuple #[.int .i64 R,.int .i64 0]) (by simp [results,Try.results16,go_sem]) rfl ⟨rfl,?_⟩
 exact B0.trans ((by assumption : Below w1.heap.size w1 _).mono B0.size)
end Go.Proofs.Ytmemcopfeabcgaa
