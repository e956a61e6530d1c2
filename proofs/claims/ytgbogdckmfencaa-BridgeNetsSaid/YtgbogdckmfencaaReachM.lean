/- The iterator of bridge.numbers, as a contract: it hands out the numbers of its range, for every loop body that leaves its box. -/
import Derived.Test.YtgbogdckmfencaaFolM
import Derived.RangeFuncNested
import Derived.RangeFuncBound
import Derived.RangeFuncCalls
import Derived.RangeFuncLeaves
import Derived.Shelf.Abstract
import Derived.Shelf.RegionOpen
import Derived.OwnWalkIn
import Derived.TacticsInMore
import Derived.LoopNIn
import Derived.LoopIn
import Derived.Test.YtgbogdckmfencaaWmM
import Derived.Test.YtgbogdckmfencaaRegM
set_option linter.unusedSimpArgs false
set_option linter.unusedVariables false
namespace Go.Proofs.Ytgbogdckmfencaa
open Go.RowKit Go.Shelf
attribute [local go_sem] Oper.semAt_some
/-- The numbers of a range, each with its bounds. -/
abbrev In (lo hi : Int):={ x : Int // lo ≤ x ∧ x ≤ hi }
def rngL (lo hi : Int) : List Int:=(List.range (hi - lo + 1).toNat).map fun i => lo + (i : Nat)
def upTo (lo : Int) (k : Nat) : List Int:=(List.range k).map fun i => lo + (i : Nat)
theorem upTo_succ (lo : Int) (k : Nat) : upTo lo (k + 1) = upTo lo k ++ [lo + k]:=by simp [upTo,List.range_succ]
theorem upTo_pre (lo : Int) {k m : Nat} (h : k ≤ m) : upTo lo k <+: upTo lo m:=by
 have e : upTo lo k = (upTo lo m).take k:=by simp [upTo,← List.map_take,List.take_range,Nat.min_eq_left h]
 rw [e]; exact List.take_prefix _ _
def SameBox (g : Nat) (A B : World) : Prop:=B.heap[g]? = A.heap[g]?
set_option maxHeartbeats 1000000 in
theorem numbers1_in (F : Fence) (n : Nat) (h105 : F.fn 105) (hro : F.round = none) (hn : 1 ≤ n) (g : Nat) (lo hi : Int) (b1 : -1000 ≤ lo) (b2 : lo ≤ 1000) (b3 : -1000 ≤ hi) (b4 : hi ≤ 1000) (l : Nat) (J Jx : List (In lo hi) → World → Prop)
  (hY : ∀ pre x W,J pre W → pre.length < (hi - lo + 1).toNat → YieldAt F (n - 1) Try.prog l #[.int .i64 x.1] W fun e W' =>
   (e = .returned (.bool true) ∧ J (pre ++ [x]) W' ∧ SameBox g W W') ∨ (e = .returned (.bool false) ∧ Jx (pre ++ [x]) W'))
  (W : World) (hB : Bx W g 23 #[.int .i64 lo,.int .i64 hi]) (h0 : J [] W) :
  CallsIn F n Try.prog 105 #[.func (.yield l) #[] #[],.pointer (some ⟨g,0,none⟩)] W fun e W' => (∃ v,e = .returned v) ∧
   ((∃ xs : List (In lo hi),xs.map (·.1) = rngL lo hi ∧ J xs W') ∨ (∃ pre : List (In lo hi),pre.map (·.1) <+: rngL lo hi ∧ Jx pre W')):=by
 obtain ⟨c0,c1,cf,cz⟩:=hB.two
 refine callsIn_of_wp Try.func105 rfl h105 ?_ hro
 simp only [Try.ntmps105,List.size_toArray,List.length_cons,List.length_nil,Nat.reduceAdd,Nat.reduceSub,Array.replicate_succ,Array.replicate_zero,List.push_toArray,List.append_toArray,List.nil_append,List.cons_append]
 gi_wp2
 gi_loopw [3] (fun p wr => ∃ pre : List (In lo hi),p = .int .i64 (lo + pre.length) ∧ pre.map (·.1) = upTo lo pre.length ∧ ((pre.length : Int) ≤ hi - lo + 1 ∨ pre.length = 0) ∧ Bx wr g 23 #[.int .i64 lo,.int .i64 hi] ∧ J pre wr)
  (fun p _ => (hi + 1 - intOf p).toNat)
 case atStart => exact ⟨[],by simp,rfl,.inr rfl,hB,h0⟩
 case round =>
  obtain ⟨pre,rfl,hpre,hlen,hBr,hJ⟩:=hrel
  clear hB c0 c1 cf cz
  obtain ⟨c0,c1,cf,cz⟩:=hBr.two
  by_cases hle : lo + (pre.length : Int) ≤ hi
  ·have hlt : pre.length < (hi - lo + 1).toNat:=by omega
   obtain ⟨fn,tmps,assign,body,hy,hR⟩:=hY pre ⟨lo + pre.length,by omega,hle⟩ wr hJ hlt
   dsimp only at hy
   gi_wp2
   refine hR.mono ?_
   rintro e W3 (⟨rfl,hJ3,hk3⟩ | ⟨rfl,hJx3⟩)
   ·gi_wp2
    go_roundw
    case rel => exact ⟨pre ++ [⟨lo + pre.length,by omega,hle⟩],by simp; omega,by simp [hpre,upTo_succ],by simp; omega,hk3.trans hBr,hJ3⟩
    case measure => simp [intOf]; omega
   ·gi_wp2
    refine bodyPost_ret (results_none rfl _ _ _) rfl ?_
    refine ⟨⟨_,rfl⟩,.inr ⟨pre ++ [⟨lo + pre.length,by omega,hle⟩],?_,hJx3⟩⟩
    have e : (pre ++ [(⟨lo + pre.length,by omega,hle⟩ : In lo hi)]).map (·.1) = upTo lo (pre.length + 1):=by simp [hpre,upTo_succ]
    rw [e]
    exact upTo_pre lo (by omega)
  ·gi_wp2
   go_end0
   refine ⟨⟨_,rfl⟩,.inl ⟨pre,?_,hJ⟩⟩
   refine hpre.trans ?_
   unfold upTo rngL
   rw [show (hi - lo + 1).toNat = pre.length by omega]
theorem sameBox_t {g : Nat} {A B C : World} (h : SameBox g A B) (k : SameBox g B C) : SameBox g A C:=k.trans h
theorem sameBox_b {g : Nat} {w : World} (hg : g < w.heap.size) (W : World) (l : Nat) (o o' : Obj) (hl : w.heap.size ≤ l) (_ : W.heap[l]? = some o) (_ : o.isCells = false) (_ : o.isWalk = false) : SameBox g W (W.putObj l o') :=
 (grownBy_putObj' W l o').block g (by have:=(Array.getElem?_eq_some_iff.1 ‹W.heap[l]? = some o›).1; omega) (fun e => by injection e; omega)
/-- The iterator of numbers, as a contract. -/
theorem numbers1_stops (F : Fence) (n : Nat) (h105 : F.fn 105) (hro : F.round = none) (hn : 1 ≤ n) (g : Nat) (lo hi : Int) (b1 : -1000 ≤ lo) (b2 : lo ≤ 1000) (b3 : -1000 ≤ hi) (b4 : hi ≤ 1000) (w : World) (hB : Bx w g 23 #[.int .i64 lo,.int .i64 hi]) :
  SeqStopsK F n Try.prog 105 #[.pointer (some ⟨g,0,none⟩)] (fun x : In lo hi => #[.int .i64 x.1]) (SameBox g) (fun xs => xs.map (·.1) = rngL lo hi) (fun pre => pre.map (·.1) <+: rngL lo hi) (hi - lo + 1).toNat w :=
 fun l J Jx W hW _ _ hY h0 => (numbers1_in F n h105 hro hn g lo hi b1 b2 b3 b4 l J Jx hY W (hB.below hW hB.lt) h0)
end Go.Proofs.Ytgbogdckmfencaa

/-! bridge.weigher: the function value that it hands back, over the boxes of the log and of the map. -/
namespace Go.Proofs.Ytgbogdckmfencaa
open Go.RowKit Go.Maps
attribute [local go_sem ↓] Go.wp_at_zero Go.wp_at_succ
/-- What weigher hands back: a function value over the box of the log and the box of the map. -/
def WeigherPost (A : Option Addr) (n c : Nat) (st z0 z1 : Int) (F B : List Int) (w : World) (e : Ending) (w' : World) : Prop :=
 (∃ gl gm m,e = .returned (.func (.func 97) #[] #[.pointer (some ⟨gl,0,none⟩),.pointer (some ⟨gm,0,none⟩)]) ∧ w.heap.size ≤ gl ∧ w.heap.size ≤ gm ∧ Bx w' gl 26 #[.int .i64 st,.int .i64 z0,.int .i64 z1,.slice A n c] ∧ Bx w' gm 113 #[.map (some m)] ∧ w'.ownsMap Try.prog 3 (plainElem Try.prog 3) m 8 (wmap F B)) ∧ Below w.heap.size w w'
set_option maxHeartbeats 1000000 in
theorem weigher_any (st z0 z1 : Int) (A : Option Addr) (n c : Nat) (FA : Option Addr) (fn fc : Nat) (BA : Option Addr) (bn bc : Nat) (fs bs d0 d1 : Int) (F B : List Int) (w : World) (hf : F.length = fn) (hb : B.length = bn) (hfn : fn ≤ 4) (hbn : bn ≤ 4)
  (hF : Sl w w.heap.size 1 FA (ints F)) (hB : Sl w w.heap.size 1 BA (ints B)) (hF1 : ∀ x ∈ F,0 ≤ x ∧ x ≤ 14) (hB1 : ∀ x ∈ B,0 ≤ x ∧ x ≤ 14) :
  Calls Try.prog 70 #[.agg #[.int .i64 st,.int .i64 z0,.int .i64 z1,.slice A n c],.agg #[.slice FA fn fc,.slice BA bn bc,.int .i64 fs,.int .i64 bs,.int .i64 d0,.int .i64 d1]] w (WeigherPost A n c st z0 z1 F B w):=by
 have HF:=Lib.hid hf
 have HBn:=Lib.hid hb
 have HF1:=Lib.hid hF1
 have HB1:=Lib.hid hB1
 clear hf hb hF1 hB1
 have hB0:=((Below.refl w.heap.size w).alloc (Nat.le_refl _) (.cells #[.int .i64 st,.int .i64 z0,.int .i64 z1,.slice A n c] 26)).alloc (by simp) (.cells #[.slice FA fn fc,.slice BA bn bc,.int .i64 fs,.int .i64 bs,.int .i64 d0,.int .i64 d1] 50)
 have k1:=(Bx.new w 26 #[.int .i64 st,.int .i64 z0,.int .i64 z1,.slice A n c]).alloc (.cells #[.slice FA fn fc,.slice BA bn bc,.int .i64 fs,.int .i64 bs,.int .i64 d0,.int .i64 d1] 50)
 have HK:=Lib.hid k1
 have HB0:=Lib.hid hB0
 clear k1 hB0
 go_enter Try.func70,Try.ntmps70
 go_wp2_with (go_at_call 76; refine (wanted_any FA fn fc BA bn bc fs bs d0 d1 F B _ HF.out HBn.out hfn hbn ((hF.below HB0.out).more HB0.out.size) ((hB.below HB0.out).more HB0.out.size) HF1.out HB1.out).mono ?_; rintro e w1 ⟨rfl,hown,hb⟩; have k1:=HK.out.call hb; have hBB:=HB0.out.trans (hb.mono HB0.out.size))
 go_ret
 refine ⟨⟨_,_,_,rfl,?_,?_,k1.alloc _,Bx.new w1 113 _,by simpa using hown.alloc _⟩,hBB.alloc hBB.size _⟩
 ·exact Nat.le_refl _
 ·exact hBB.size
end Go.Proofs.Ytgbogdckmfencaa

/-! Rows of pairs of numbers: the cells of a list of tallies, as a function of the pair's place. -/
namespace Go.Proofs.Ytgbogdckmfencaa
open Go.RowKit
/-- The cells of m pairs. -/
def parr (m : Nat) (f : Nat → Int × Int) : Array Value:=Array.ofFn (n:=2 * m) fun j => if j.val % 2 = 0 then .int .i64 (f (j.val / 2)).1 else .int .i64 (f (j.val / 2)).2
theorem parr_size (m : Nat) (f : Nat → Int × Int) : (parr m f).size = 2 * m:=by simp [parr]
theorem parr_fst (m : Nat) (f : Nat → Int × Int) {i j : Nat} (hi : i < m) (hj : j = i * 2) : (parr m f)[j]? = some (.int .i64 (f i).1):=by
 subst hj
 unfold parr; rw [Array.getElem?_ofFn,dif_pos (by omega)]
 simp [show i * 2 % 2 = 0 by omega,show i * 2 / 2 = i by omega]
theorem parr_snd (m : Nat) (f : Nat → Int × Int) {i j : Nat} (hi : i < m) (hj : j = i * 2 + 1) : (parr m f)[j]? = some (.int .i64 (f i).2):=by
 subst hj
 unfold parr; rw [Array.getElem?_ofFn,dif_pos (by omega)]
 simp [show (i * 2 + 1) % 2 = 1 by omega,show (i * 2 + 1) / 2 = i by omega]
theorem parr_set (m : Nat) (f : Nat → Int × Int) {i j : Nat} (hi : i < m) (hj : j = i * 2) (a b : Int) : ((parr m f).setIfInBounds j (.int .i64 a)).setIfInBounds (j + 1) (.int .i64 b) = parr m (upd f i (a,b)):=by
 subst hj
 apply Array.ext
 ·simp [parr]
 ·intro j h1 h2
  have hj : j < 2 * m:=by simpa [parr] using h2
  rw [Array.getElem_setIfInBounds (by simpa [parr] using hj)]
  by_cases e1 : i * 2 + 1 = j
  ·subst e1
   simp [parr,upd,show (i * 2 + 1) % 2 = 1 by omega,show (i * 2 + 1) / 2 = i by omega]
  ·rw [if_neg e1,Array.getElem_setIfInBounds (by simpa [parr] using hj)]
   by_cases e2 : i * 2 = j
   ·subst e2
    simp [parr,upd,show i * 2 % 2 = 0 by omega,show i * 2 / 2 = i by omega]
   ·rw [if_neg e2]
    simp [parr,upd,show ¬ j / 2 = i by omega]
theorem parr_made (m : Nat) (z : Array Value) (hz : z.size = 802) (h0 : ∀ i,i < 802 → z[i]? = some (.int .i64 0)) : madeCells z (m * 802) = parr (m * 401) fun _ => (0,0):=by
 apply Array.ext
 ·simp [madeCells,parr]; omega
 ·intro j h1 h2
  have hj : j % 802 < 802:=Nat.mod_lt _ (by omega)
  have hg:=h0 _ hj
  simp only [madeCells,parr,Array.getElem_map,Array.getElem_range,Array.getElem_ofFn,hz]
  rw [getElem!_def,hg]
  simp
attribute [irreducible] parr
end Go.Proofs.Ytgbogdckmfencaa

/-! bridge.reachable: the zeros that events may have by themselves and those before them, up to the first that has none. -/
namespace Go.Proofs.Ytgbogdckmfencaa
open Go.RowKit
attribute [local go_sem ↓] Go.wp_at_zero Go.wp_at_succ
theorem shownZeros_ev (st : Int) (e : Ev) (w : World) (h1 : 1 ≤ st) (h2 : st ≤ 100) (h : EvOk e) :
  Calls Try.prog 91 #[.int .i64 st,.agg #[.int .i64 e.kd,.int .i64 e.sh,.int .i64 e.ld,.int .i64 e.c0,.int .i64 e.c1]] w fun r w' => r = .returned (.agg #[.int .i64 (sLo st e),.int .i64 (sHi st e)]) ∧ Below w.heap.size w w' :=
 shownZeros_any st e.kd e.sh e.ld e.c0 e.c1 w h1 h2 h.s1 h.s2 h.l1 h.l2
def ReachPost (st z0 z1 : Int) (es : List Ev) (w : World) (e : Ending) (w' : World) : Prop :=
 (∃ m,Fits st z0 z1 es m ∧ e = .returned (.tuple #[.agg (zarr (kn st z0 z1 es m)),.int .i64 m])) ∧ Below w.heap.size w w'
def LI (st z0 z1 : Int) (es : List Ev) (A : Option Addr) (n c : Nat) (w : World) (i : Value) (wr : World) : Prop :=
 ∃ k : Nat,k ≤ n ∧ i = .int .i64 k ∧ (∀ j,j < k → (bef st z0 z1 es (j + 1)).1 ≤ (bef st z0 z1 es (j + 1)).2) ∧
  Bx wr w.heap.size 26 #[.int .i64 st,.int .i64 z0,.int .i64 z1,.slice A n c] ∧ Bx wr (w.heap.size + 1) 91 (zarr fun _ => (0,0)) ∧ Bx wr (w.heap.size + 1 + 1) 91 (zarr (kn st z0 z1 es k)) ∧
  Bx wr (w.heap.size + 1 + 1 + 1) 23 #[.int .i64 (bef st z0 z1 es k).1,.int .i64 (bef st z0 z1 es k).2] ∧ Below w.heap.size w wr
set_option maxRecDepth 100000 in
set_option maxHeartbeats 1000000 in
theorem reachable_any (st z0 z1 : Int) (A : Option Addr) (n c : Nat) (es : List Ev) (w : World) (hok : LogOk st z0 z1 es) (hl : es.length = n) (hA : EvsAt w w.heap.size A es) :
  Calls Try.prog 61 #[.agg #[.int .i64 st,.int .i64 z0,.int .i64 z1,.slice A n c]] w (ReachPost st z0 z1 es w):=by
 have hn : n ≤ 14:=by rw [← hl]; exact hok.n
 have HL:=Lib.hid hl
 clear hl
 have hs1:=hok.s1
 have hs2:=hok.s2
 go_enter Try.func61,Try.ntmps61
 go_wp2_with fail
 go_loopw [13] (LI st z0 z1 es A n c w) (fun i _ => n - (intOf i).toNat)
 case atStart =>
  have z0e:=zarr0
  refine ⟨0,by omega,rfl,fun j hj => by omega,(((Bx.new w 26 _).alloc _).alloc _).alloc _,?_,?_,Bx.at _ _ _ (by simp),?_⟩
  ·rw [z0e]; exact ((Bx.at _ _ _ (by simp)).alloc _).alloc _
  ·rw [show kn st z0 z1 es 0 = fun _ => (0,0) from by funext i; simp [kn],z0e]; exact (Bx.at _ _ _ (by simp)).alloc _
  ·repeat (first | exact Below.refl _ _ | refine Below.alloc ?_ (by simp; try omega) _)
 case round =>
  obtain ⟨k,hk,rfl,hy,k1,k2,k3,k4,hB⟩:=hrel
  obtain ⟨a0,a1,a2,a3,af,az⟩:=k1.four
  obtain ⟨d0,d1,df,dz⟩:=k4.two
  by_cases hkn : k < n
  ·have hke : k < es.length:=by rw [HL.out]; exact hkn
   obtain ⟨ad,rfl,_,q0,q1,q2,q3,q4⟩:=(hA.below hB).at_ hke
   have hbs:=bef_succ (st:=st) (z0:=z0) (z1:=z1) hke
   have he:=hok.ev _ (List.getElem_mem hke)
   generalize es[k] = e at *
   have hlo:=bef_lo hok k
   have hnx : (bef st z0 z1 es k).1 ≤ (bef st z0 z1 es k).2:=by
    cases k with
    | zero => exact hok.r2
    | succ k => exact hy k (by omega)
   have HBS : Hid (bef st z0 z1 es (k + 1) = (max ((bef st z0 z1 es k).1 + e.c0) (sLo st e),min ((bef st z0 z1 es k).2 + e.c1) (sHi st e))):=by unfold Hid; rw [hbs]; rfl
   clear hbs
   have HY:=Lib.hid hy
   clear hy hA hok
   obtain ⟨hc1,hc2,hc3⟩:=And.intro he.c1 (And.intro he.c2 he.c3)
   have HE:=Lib.hid he
   clear he
   obtain ⟨hl1,hl2⟩:=hlo
   generalize (bef st z0 z1 es k).1 = x at *
   generalize (bef st z0 z1 es k).2 = y at *
   go_wp2_with fail
   refine AnyG.start (fun w' : World => w'.cell? ⟨w.heap.size,0,none⟩ = some (.int .i64 st) ∧ w'.cell? ⟨w.heap.size + 1 + 1 + 1,0,none⟩ = some (.int .i64 x) ∧ w'.cell? ⟨w.heap.size + 1 + 1 + 1,1,none⟩ = some (.int .i64 y) ∧ w'.cell? ⟨wr.heap.size,0,none⟩ = some (.int .i64 e.kd) ∧ w'.cell? ⟨wr.heap.size,1,none⟩ = some (.int .i64 e.sh) ∧ w'.cell? ⟨wr.heap.size,2,none⟩ = some (.int .i64 e.ld) ∧ w'.cell? ⟨wr.heap.size,3,none⟩ = some (.int .i64 e.c0) ∧ w'.cell? ⟨wr.heap.size,4,none⟩ = some (.int .i64 e.c1)) (fun i => i != 9) (by kernel_rfl) ?_
   have hS : (fun w' : World => w'.cell? ⟨w.heap.size,0,none⟩ = some (.int .i64 st) ∧ w'.cell? ⟨w.heap.size + 1 + 1 + 1,0,none⟩ = some (.int .i64 x) ∧ w'.cell? ⟨w.heap.size + 1 + 1 + 1,1,none⟩ = some (.int .i64 y) ∧ w'.cell? ⟨wr.heap.size,0,none⟩ = some (.int .i64 e.kd) ∧ w'.cell? ⟨wr.heap.size,1,none⟩ = some (.int .i64 e.sh) ∧ w'.cell? ⟨wr.heap.size,2,none⟩ = some (.int .i64 e.ld) ∧ w'.cell? ⟨wr.heap.size,3,none⟩ = some (.int .i64 e.c0) ∧ w'.cell? ⟨wr.heap.size,4,none⟩ = some (.int .i64 e.c1)) (World.drew (wr.alloc (.cells #[.int .i64 e.kd,.int .i64 e.sh,.int .i64 e.ld,.int .i64 e.c0,.int .i64 e.c1] 28))):=by
    (try dsimp only)
    first | (go_keep; done) | (go_simp; done)
   refine AnyG.take (i:=0) (v:=?_) rfl (by kernel_rfl) (fun _ _ _ h => h) rfl ?_ hS ?_
   rotate_left
   ·(intro w hSw; (try dsimp only at hSw); go_split_ands; go_simp; try with_reducible rfl)
   try simp only [Act.put,Sp4,Sp5,Sp6]
   refine AnyG.take (i:=1) (v:=?_) rfl (by kernel_rfl) (fun _ _ _ h => h) rfl ?_ hS ?_
   rotate_left
   ·(intro w hSw; (try dsimp only at hSw); go_split_ands; go_simp; try with_reducible rfl)
   try simp only [Act.put,Sp4,Sp5,Sp6]
   refine AnyG.take (i:=2) (v:=?_) rfl (by kernel_rfl) (fun _ _ _ h => h) rfl ?_ hS ?_
   rotate_left
   ·(intro w hSw; (try dsimp only at hSw); go_split_ands; go_simp; try with_reducible rfl)
   try simp only [Act.put,Sp4,Sp5,Sp6]
   refine AnyG.take (i:=4) (v:=?_) rfl (by kernel_rfl) (fun _ _ _ h => h) rfl ?_ hS ?_
   rotate_left
   ·(intro w hSw; (try dsimp only at hSw); go_split_ands; go_simp; try with_reducible rfl)
   try simp only [Act.put,Sp4,Sp5,Sp6]
   refine AnyG.take (i:=5) (v:=?_) rfl (by kernel_rfl) (fun _ _ _ h => h) rfl ?_ hS ?_
   rotate_left
   ·(intro w hSw; (try dsimp only at hSw); go_split_ands; go_simp; try with_reducible rfl)
   try simp only [Act.put,Sp4,Sp5,Sp6]
   refine AnyG.take (i:=6) (v:=?_) rfl (by kernel_rfl) (fun _ _ _ h => h) rfl ?_ hS ?_
   rotate_left
   ·(intro w hSw; (try dsimp only at hSw); go_split_ands; go_simp; try with_reducible rfl)
   try simp only [Act.put,Sp4,Sp5,Sp6]
   refine AnyG.one (i:=3) (by kernel_rfl) rfl rfl ?_
   clear hS
   go_simp
   refine (plus_any _ _ _ _ _ (by omega) (by omega) (by omega) (by omega) (by omega) (by omega) (by omega) (by omega)).mono ?_; rintro r w1 ⟨rfl,hb1⟩; have p1:=(k1.alloc _).drew.call hb1; have p3:=(k3.alloc _).drew.call hb1; have p4:=(k4.alloc _).drew.call hb1; have p7:=(Bx.new wr 28 _).drew.call hb1
   obtain ⟨a0,a1,a2,a3,af,az⟩:=p1.four
   obtain ⟨d0,d1,df,dz⟩:=p4.two
   obtain ⟨g0,g1,g2,g3,g4,gf,gz⟩:=p7.five
   refine Onward.on ⟨a0,d0,d1,g0,g1,g2,g3,g4⟩ (fun hS => ?_)
   try simp only [Act.put,Sp4,Sp5,Sp6]
   refine AnyG.one (i:=7) (by kernel_rfl) rfl rfl ?_
   clear hS
   go_simp
   refine (shownZeros_ev st e _ hs1 hs2 HE.out).mono ?_; rintro r w2 ⟨rfl,hb2⟩; replace p1:=p1.call hb2; replace p3:=p3.call hb2; replace p4:=p4.call hb2; replace p7:=p7.call hb2
   obtain ⟨a0,a1,a2,a3,af,az⟩:=p1.four
   obtain ⟨d0,d1,df,dz⟩:=p4.two
   obtain ⟨g0,g1,g2,g3,g4,gf,gz⟩:=p7.five
   refine Onward.on ⟨a0,d0,d1,g0,g1,g2,g3,g4⟩ (fun hS => ?_)
   try simp only [Act.put,Sp4,Sp5,Sp6]
   refine AnyG.one (i:=8) (by kernel_rfl) rfl rfl ?_
   clear hS
   go_simp
   refine (meet_any _ _ _ _ _).mono ?_; rintro r w3 ⟨rfl,hb3⟩; replace p1:=p1.call hb3; replace p3:=p3.call hb3; replace p4:=p4.call hb3; replace p7:=p7.call hb3
   obtain ⟨a0,a1,a2,a3,af,az⟩:=p1.four
   obtain ⟨d0,d1,df,dz⟩:=p4.two
   obtain ⟨g0,g1,g2,g3,g4,gf,gz⟩:=p7.five
   refine Onward.on ⟨a0,d0,d1,g0,g1,g2,g3,g4⟩ (fun hS => ?_)
   try simp only [Act.put,Sp4,Sp5,Sp6]
   refine AnyG.one (i:=9) (by kernel_rfl) rfl rfl ?_
   clear hS
   go_simp
   refine Onward.last rfl (AnyG.done (by kernel_rfl) ?_ _)
   have p4':=(p4.set_ 0 (.int .i64 (max (x + e.c0) (sLo st e)))).set_ 1 (.int .i64 (min (y + e.c1) (sHi st e)))
   simp only [Sp4,Sp5,Sp6] at p4'
   have p3':=(p3.far (p:=⟨w.heap.size + 1 + 1 + 1,0,none⟩) (by simp <;> omega) (.int .i64 (max (x + e.c0) (sLo st e)))).far (p:=⟨w.heap.size + 1 + 1 + 1,1,none⟩) (by simp <;> omega) (.int .i64 (min (y + e.c1) (sHi st e)))
   have p2':=(((((k2.alloc _).drew.call hb1).call hb2).call hb3).far (p:=⟨w.heap.size + 1 + 1 + 1,0,none⟩) (by simp <;> omega) (.int .i64 (max (x + e.c0) (sLo st e)))).far (p:=⟨w.heap.size + 1 + 1 + 1,1,none⟩) (by simp <;> omega) (.int .i64 (min (y + e.c1) (sHi st e)))
   have p1':=(p1.far (p:=⟨w.heap.size + 1 + 1 + 1,0,none⟩) (by simp <;> omega) (.int .i64 (max (x + e.c0) (sLo st e)))).far (p:=⟨w.heap.size + 1 + 1 + 1,1,none⟩) (by simp <;> omega) (.int .i64 (min (y + e.c1) (sHi st e)))
   have hB3 : Below w.heap.size w (World.setCell (World.setCell w3 ⟨w.heap.size + 1 + 1 + 1,0,none⟩ (.int .i64 (max (x + e.c0) (sLo st e)))) ⟨w.heap.size + 1 + 1 + 1,1,none⟩ (.int .i64 (min (y + e.c1) (sHi st e)))):=by
    refine Below.setCell (Below.setCell (hB.trans ((((Below.refl _ _).alloc hB.size _).drew.trans (hb1.mono (by simp; have:=hB.size; omega))).trans ((hb2.mono ?_).trans (hb3.mono ?_)))) (by simp; omega) _) (by simp; omega) _
    ·have:=hb1.size; simp at this; have:=hB.size; omega
    ·have:=hb1.size; simp at this; have:=hb2.size; have:=hB.size; omega
   generalize hw4 : World.setCell (World.setCell w3 _ _) _ _ = w4 at *
   clear hw4 p1 p3 p4 p7 hb1 hb2 hb3 hB k1 k2 k3 k4
   obtain ⟨a0,a1,a2,a3,af,az⟩:=p1'.four
   obtain ⟨d0,d1,df,dz⟩:=p4'.two
   by_cases hem : min (y + e.c1) (sHi st e) < max (x + e.c0) (sLo st e)
   ·go_upto_region 8 with fail
    refine wp_region_lit ?_
    refine wpList_load_row rfl 91 (.tmp 4) rfl (w.heap.size + 1 + 1) rfl 91 _ (0,0) _ p3' Try.underlying91 rfl (by rw [zarr_size]; kernel_rfl) ?_
    go_wp2_with ((with_reducible (show wpList _ _ _ (⟨none,.store 91 _ _,_,_,_,_⟩ :: _) _ _)); refine wpList_store_row rfl 91 (.tmp 2) (.tmp 32) rfl (w.heap.size + 1) _ rfl rfl 91 _ p2' (by rw [zarr_size]; kernel_rfl) (by rw [zarr_size,zarr_size]) (zarr_one _) ?_)
    refine bodyPost_ret (results_row_tmp (cs:=zarr (kn st z0 z1 es k)) rfl rfl p2'.row Try.underlying91 rfl (by rw [zarr_size]; kernel_rfl)) rfl ⟨⟨k,⟨by omega,HY.out,fun _ => by rw [HBS.out]; exact hem⟩,rfl⟩,?_⟩
    exact ⟨hB3.os,hB3.tape,hB3.output,by simpa [World.setRow] using hB3.size,fun i hi => by
     have:=hB3.block i hi
     simp only [World.setRow,Array.getElem?_modify]
     rw [if_neg (by omega)]; exact this⟩
   ·have e0:=(p3'.cell (k * 2)).trans (zarr_fst _ (by omega))
    have e1:=(p3'.cell (k * 2 + 1)).trans (zarr_snd _ (by omega))
    have e2:=p3'.free
    have e3:=p3'.lt
    go_wp2_with fail
    have hb1 : bef st z0 z1 es (k + 1) = (max (x + e.c0) (sLo st e),min (y + e.c1) (sHi st e)):=HBS.out
    go_roundw
    case rel =>
     refine ⟨k + 1,by omega,by go_num,fun j hj => ?_,(p1'.far (by simp; omega) _).far (by simp; omega) _,(p2'.far (by simp) _).far (by simp) _,?_,?_,?_⟩
     ·rcases Nat.lt_or_ge j k with h | h
      ·exact HY.out j h
      ·obtain rfl : j = k:=by omega
       rw [hb1]; simpa using hem
     ·have:=(p3'.set_ (k * 2) (.int .i64 (max (x + e.c0) (sLo st e)))).set_ (k * 2 + 1) (.int .i64 (min (y + e.c1) (sHi st e)))
      rw [zarr_set _ (by omega),← hb1,kn_upd] at this
      exact this
     ·rw [hb1]; exact (p4'.far (by simp) _).far (by simp) _
     ·exact (hB3.setCell (by simp; omega) _).setCell (by simp; omega) _
    case measure => simp [intOf]; omega
  ·obtain rfl : k = n:=by omega
   have hfit : Fits st z0 z1 es k:=⟨by rw [HL.out]; exact Nat.le_refl _,hy,fun h => absurd h (by rw [HL.out]; omega)⟩
   have HF:=Lib.hid hfit
   clear hfit hy hA
   go_wp2_with fail
   refine AnyG.start (fun w' : World => w'.cell? ⟨w.heap.size,3,none⟩ = some (.slice A k c) ∧ Bx w' (w.heap.size + 1 + 1) 91 (zarr (kn st z0 z1 es k))) (fun _ => true) (by kernel_rfl) ?_
   have hS : (fun w' : World => w'.cell? ⟨w.heap.size,3,none⟩ = some (.slice A k c) ∧ Bx w' (w.heap.size + 1 + 1) 91 (zarr (kn st z0 z1 es k))) (World.drew wr):=⟨a3,k3.drew⟩
   refine AnyG.take (i:=0) (v:=.agg (zarr (kn st z0 z1 es k))) rfl (by kernel_rfl) (fun _ _ _ h => h) rfl ?_ hS ?_
   ·exact fun w' hSw => run_load_bx 91 (.tmp 4) rfl _ rfl 91 _ _ hSw.2 Try.underlying91 rfl (by rw [zarr_size]; kernel_rfl)
   try simp only [Act.put,Sp4,Sp5,Sp6]
   refine AnyG.take (i:=1) (v:=?_) rfl (by kernel_rfl) (fun _ _ _ h => h) rfl ?_ hS ?_
   rotate_left
   ·(intro w hSw; (try dsimp only at hSw); go_split_ands; go_simp; try with_reducible rfl)
   try simp only [Act.put,Sp4,Sp5,Sp6]
   refine AnyG.take (i:=2) (v:=?_) rfl (by kernel_rfl) (fun _ _ _ h => h) rfl ?_ hS ?_
   rotate_left
   ·(intro w hSw; (try dsimp only at hSw); go_split_ands; go_simp; try with_reducible rfl)
   try simp only [Act.put,Sp4,Sp5,Sp6]
   refine AnyG.take (i:=3) (v:=?_) rfl (by kernel_rfl) (fun _ _ _ h => h) rfl ?_ hS ?_
   rotate_left
   ·(intro w hSw; (try dsimp only at hSw); go_split_ands; go_simp; try with_reducible rfl)
   try simp only [Act.put,Sp4,Sp5,Sp6]
   refine AnyG.one (i:=4) (by kernel_rfl) rfl rfl ?_
   refine wp_store_row 91 (.tmp 2) (.tmp 38) rfl (w.heap.size + 1) _ rfl rfl 91 _ k2.drew (by rw [zarr_size]; kernel_rfl) (by rw [zarr_size,zarr_size]) (zarr_one _) ?_
   refine Onward.on ⟨by rw [(k1.drew.rowfar (by omega)).cell]; rfl,k3.drew.rowfar (by omega)⟩ (fun hS => ?_)
   try simp only [Act.put,Sp4,Sp5,Sp6]
   refine AnyG.one (i:=5) (by kernel_rfl) rfl rfl ?_
   have HS:=Lib.hid hS
   clear hS
   go_simp
   refine Onward.on HS.out (fun _ => ?_)
   refine AnyG.done (by kernel_rfl) ?_ _
   go_wp2_with fail
   refine bodyPost_ret (results_row_tmp (cs:=zarr (kn st z0 z1 es k)) rfl rfl k2.drew.row Try.underlying91 rfl (by rw [zarr_size]; kernel_rfl)) rfl ⟨⟨k,HF.out,rfl⟩,?_⟩
   exact hB.drew.setRow (by omega) _
end Go.Proofs.Ytgbogdckmfencaa
