/- The errors of logs: bridge.checkRange, checkEvent, Check return what ckR, ckE, ckL say, for all arguments. -/
import Derived.Test.YtgbogdckmfencaaBase
import Derived.Deep.RegionHeld3
import Derived.Deep.DeepCutAuto
import Derived.Deep.DrawnRows
import Derived.Laws.ResultCell
import Derived.Laws.CopyOwn
import Derived.Laws.MakeOwn
import Derived.Maps.Own
import Derived.Maps.OwnOps
import Derived.Maps.OwnSet
set_option linter.unusedSimpArgs false
set_option linter.unusedVariables false
namespace Go.Proofs.Ytgbogdckmfencaa
open Go.RowKit
theorem checkRange_any (a b lo hi : Int) (w : World) :
  Calls Try.prog 62 #[.agg #[.int .i64 a,.int .i64 b],.int .i64 lo,.int .i64 hi] w fun e w' => e = .returned (.int .i64 (ckR a b lo hi)) ∧ Below w.heap.size w w':=by
 go_enter Try.func62,Try.ntmps62
 go_wp2
 all_goals
  go_ret
  refine ⟨ret_int ?_,(Below.refl _ _).alloc (Nat.le_refl _) _⟩
  unfold ckR
  repeat (first | rw [if_pos (by omega)] | rw [if_neg (by omega)])
set_option maxHeartbeats 400000 in
theorem checkEvent_any (st kd sh ld c0 c1 : Int) (w : World) (h1 : 1 ≤ st) (h2 : st ≤ 100) :
  Calls Try.prog 63 #[.int .i64 st,.agg #[.int .i64 kd,.int .i64 sh,.int .i64 ld,.int .i64 c0,.int .i64 c1]] w fun r w' => r = .returned (.int .i64 (ckE st ⟨kd,sh,ld,c0,c1⟩)) ∧ Below w.heap.size w w':=by
 go_enter Try.func63,Try.ntmps63
 go_wp2_with (go_at_call 62; refine (checkRange_any _ _ _ _ _).mono ?_; rintro e w1 ⟨rfl,hb⟩)
 all_goals
  go_ret
  refine ⟨ret_int ?_,by first | exact (Below.refl _ _).alloc (Nat.le_refl _) _ | exact ((Below.refl _ _).alloc (Nat.le_refl _) _).trans (hb.mono (by simp))⟩
  simp only [ckE]
  try simp only [bne_iff_ne,bne_eq_false_iff_eq] at *
  first | (exfalso; omega) | repeat (first | rw [if_pos (by omega)] | rw [if_neg (by omega)])
set_option maxHeartbeats 400000 in
theorem check_any (st z0 z1 : Int) (A : Option Addr) (n c : Nat) (es : List Ev) (w : World) (hn : n ≤ 9223372036854775807) (hl : es.length = n) (hA : EvsAt w w.heap.size A es):
  Calls Try.prog 22 #[.agg #[.int .i64 st,.int .i64 z0,.int .i64 z1,.slice A n c]] w fun e w' => e = .returned (.int .i64 (ckL st z0 z1 es)) ∧ Below w.heap.size w w':=by
 have HL:=Lib.hid hl
 clear hl
 by_cases hs : 1 ≤ st ∧ st ≤ 100
 case neg =>
  have H1 : ckL st z0 z1 es = 1:=by unfold ckL; rw [if_pos (by omega)]
  go_enter Try.func22,Try.ntmps22
  go_wp2_with fail
  all_goals
   go_ret
   exact ⟨ret_int (by first | rfl | exact H1.symm),(Below.refl _ _).alloc (Nat.le_refl _) _⟩
 obtain ⟨hs1,hs2⟩:=hs
 have hs0 : ¬ (st < 1 ∨ 100 < st):=by omega
 by_cases hz : ckR z0 z1 (-200) 200 = 0
 case neg =>
  have hz' : (ckR z0 z1 (-200) 200 != 0) = true:=by simpa using hz
  have H1 : ckL st z0 z1 es = ckR z0 z1 (-200) 200:=by unfold ckL; rw [if_neg hs0,if_pos hz]
  go_enter Try.func22,Try.ntmps22
  go_wp2_with (go_at_call 62; refine (checkRange_any _ _ _ _ _).mono ?_; rintro e w1 ⟨rfl,hb⟩; obtain ⟨hc,hf⟩:=bcell hb)
  go_ret
  exact ⟨ret_int H1.symm,((Below.refl _ _).alloc (Nat.le_refl _) _).trans (hb.mono (by simp))⟩
 have hz' : (ckR z0 z1 (-200) 200 != 0) = false:=by simpa using hz
 have HZ:=Lib.hid hz
 clear hz
 by_cases hn2 : 14 < n
 case pos =>
  have H1 : ckL st z0 z1 es = 6:=by unfold ckL; rw [if_neg hs0,if_neg (fun h => h HZ.out),if_pos (by rw [HL.out]; omega)]
  go_enter Try.func22,Try.ntmps22
  go_wp2_with (go_at_call 62; refine (checkRange_any _ _ _ _ _).mono ?_; rintro e w1 ⟨rfl,hb⟩; obtain ⟨hc,hf⟩:=bcell hb)
  go_ret
  exact ⟨ret_int H1.symm,((Below.refl _ _).alloc (Nat.le_refl _) _).trans (hb.mono (by simp))⟩
 have H1 : ckL st z0 z1 es = ckEs st es:=by unfold ckL; rw [if_neg hs0,if_neg (fun h => h HZ.out),if_neg (by rw [HL.out]; omega)]
 have H1:=Lib.hid H1
 go_enter Try.func22,Try.ntmps22
 go_wp2_with (go_at_call 62; refine (checkRange_any _ _ _ _ _).mono ?_; rintro e w1 ⟨rfl,hb⟩; obtain ⟨hc,hf⟩:=bcell hb)
 go_loopw [28] (fun i wr => ∃ k : Nat,k ≤ n ∧ i = .int .i64 k ∧ Hid (ckEs st es = ckEs st (es.drop k)) ∧ Below (w.heap.size + 1) (w.alloc (.cells #[.int .i64 st,.int .i64 z0,.int .i64 z1,.slice A n c] 26)) wr) (fun i _ => n - (intOf i).toNat)
 case atStart => exact ⟨0,by omega,rfl,rfl,hb.mono (by simp)⟩
 case round =>
  clear hc hf hb
  obtain ⟨k,hk,rfl,hd,hB⟩:=hrel
  obtain ⟨hc,hf⟩:=bcell hB
  have hsz : w.heap.size < wr.heap.size:=by have:=hB.size; simp at this; omega
  by_cases hkn : k < n
  ·have hke : k < es.length:=by rw [HL.out]; exact hkn
   obtain ⟨ad,rfl,_,q0,q1,q2,q3,q4⟩:=((hA.alloc (Nat.le_refl _) _).below (hB.mono (by omega))).at_ hke
   have hds:=ckEs_step (st:=st) hke
   generalize es[k] = e at *
   obtain ⟨kd,sh,ld,c0,c1⟩:=e
   by_cases hz0 : ckE st ⟨kd,sh,ld,c0,c1⟩ = 0
   ·have hz1 : (ckE st ⟨kd,sh,ld,c0,c1⟩ != 0) = false:=by simpa using hz0
    have hd' : Hid (ckEs st es = ckEs st (es.drop (k + 1))):=by
     unfold Hid; rw [hd.out,hds,if_neg (by simpa using hz0)]
    clear hds hz0 hA
    go_wp2_with (go_at_call 63; refine (checkEvent_any st kd sh ld c0 c1 _ hs1 hs2).mono ?_; rintro e w1 ⟨rfl,hb⟩; obtain ⟨hc',hf'⟩:=bcell hb)
    go_roundw
    case rel => exact ⟨k + 1,by omega,by go_num,hd',hB.trans (((Below.refl _ _).alloc hsz _).trans (hb.mono (by simp; omega)))⟩
    case measure => simp [intOf]; omega
   ·have hz1 : (ckE st ⟨kd,sh,ld,c0,c1⟩ != 0) = true:=by simpa using hz0
    have hd' : Hid (ckL st z0 z1 es = ckE st ⟨kd,sh,ld,c0,c1⟩):=by
     unfold Hid; rw [H1.out,hd.out,hds,if_pos (by simpa using hz0)]
    clear hds hz0 hA
    go_wp2_with (go_at_call 63; refine (checkEvent_any st kd sh ld c0 c1 _ hs1 hs2).mono ?_; rintro e w1 ⟨rfl,hb⟩; obtain ⟨hc',hf'⟩:=bcell hb)
    go_ret
    exact ⟨ret_int hd'.out.symm,((((Below.refl _ _).alloc (Nat.le_refl _) _).trans (hB.mono (by omega))).alloc (by omega) _).trans (hb.mono (by simp; omega))⟩
  ·have hd' : Hid (ckL st z0 z1 es = 0):=by
    unfold Hid; rw [H1.out,hd.out,List.drop_eq_nil_of_le (by rw [HL.out]; omega)]; rfl
   go_wp2_with fail
   go_ret
   exact ⟨ret_int hd'.out.symm,((Below.refl _ _).alloc (Nat.le_refl _) _).trans (hB.mono (by omega))⟩
end Go.Proofs.Ytgbogdckmfencaa

/-! bridge.checkAxles and isSeat. -/
namespace Go.Proofs.Ytgbogdckmfencaa
open Go.RowKit
def kdAt (es : List Ev) (a : Int) : Int:=match es[a.toNat]? with | some e => e.kd | none => 0
def ckAx (es : List Ev) : Int → List Int → Int
 | _,[] => 0
 | b,a :: r => if a < 0 ∨ (es.length : Int) ≤ a then 3 else if kdAt es a ≠ 3 then 8 else if a ≤ b then 5 else ckAx es a r
def ckA (es : List Ev) (axs : List Int) : Int:=if axs.length < 1 then 7 else if 4 < axs.length then 6 else ckAx es (-1) axs
def ints (l : List Int) : List (List Value):=l.map fun a => [.int .i64 a]
theorem ckAx_step {es : List Ev} {axs : List Int} {b : Int} {k : Nat} (hk : k < axs.length) : ckAx es b (axs.drop k) = if axs[k] < 0 ∨ (es.length : Int) ≤ axs[k] then 3 else if kdAt es axs[k] ≠ 3 then 8 else if axs[k] ≤ b then 5 else ckAx es axs[k] (axs.drop (k + 1)):=by
 rw [List.drop_eq_getElem_cons hk,ckAx]
theorem ints_at {w : World} {B k : Nat} {X : Option Addr} {l : List Int} (h : Sl w B 1 X (ints l)) (hk : k < l.length) : ∃ ad,X = some ad ∧ ad.block < B ∧ w.cell? (ad.add k) = some (.int .i64 l[k]):=by
 obtain ⟨ad,h1,h2,h3⟩:=Sl.at_ h (k:=k) (by simpa [ints] using hk)
 refine ⟨ad,h1,h2,?_⟩
 have:=h3.head (u:=.int .i64 l[k]) (by simp [ints])
 simpa using this
set_option maxHeartbeats 1000000 in
theorem checkAxles_any (st z0 z1 : Int) (A : Option Addr) (n c : Nat) (es : List Ev) (X : Option Addr) (m d : Nat) (axs : List Int) (w : World) (hn : n ≤ 14) (hl : es.length = n) (hA : EvsAt w w.heap.size A es) (hm : m ≤ 9223372036854775807) (hx : axs.length = m) (hX : Sl w w.heap.size 1 X (ints axs)) :
  Calls Try.prog 75 #[.agg #[.int .i64 st,.int .i64 z0,.int .i64 z1,.slice A n c],.slice X m d] w fun e w' => e = .returned (.int .i64 (ckA es axs)) ∧ Below w.heap.size w w':=by
 have HL:=Lib.hid hl
 have HX:=Lib.hid hx
 clear hl hx
 by_cases h1 : m < 1
 case pos =>
  have H1 : Hid (ckA es axs = 7):=by unfold Hid ckA; rw [if_pos (by rw [HX.out]; exact h1)]
  go_enter Try.func75,Try.ntmps75
  go_wp2_with fail
  go_ret
  exact ⟨ret_int H1.out.symm,(Below.refl _ _).alloc (Nat.le_refl _) _⟩
 by_cases h2 : 4 < m
 case pos =>
  have H1 : Hid (ckA es axs = 6):=by unfold Hid ckA; rw [if_neg (by rw [HX.out]; exact h1),if_pos (by rw [HX.out]; exact h2)]
  go_enter Try.func75,Try.ntmps75
  go_wp2_with fail
  go_ret
  exact ⟨ret_int H1.out.symm,(Below.refl _ _).alloc (Nat.le_refl _) _⟩
 have H1 : Hid (ckA es axs = ckAx es (-1) axs):=by unfold Hid ckA; rw [if_neg (by rw [HX.out]; exact h1),if_neg (by rw [HX.out]; exact h2)]
 go_enter Try.func75,Try.ntmps75
 go_wp2_with fail
 go_loop [5,16] (fun b i => ∃ (k : Nat) (p : Int),k ≤ m ∧ i = .int .i64 k ∧ b = .int .i64 p ∧ Hid (ckA es axs = ckAx es p (axs.drop k))) (fun _ i => m - (intOf i).toNat)
 case atStart => exact ⟨0,-1,by omega,rfl,rfl,H1⟩
 case round =>
  obtain ⟨k,p,hk,rfl,rfl,hd⟩:=hrel
  by_cases hkm : k < m
  ·have hke : k < axs.length:=by rw [HX.out]; exact hkm
   obtain ⟨ad,rfl,hab,q0⟩:=ints_at hX hke
   have q1 : (w.alloc (.cells #[.int .i64 st,.int .i64 z0,.int .i64 z1,.slice A n c] 26)).cell? (ad.add k) = _:=(World.cell?_alloc_lt _ _ _ (by rw [add_block]; exact hab)).trans q0
   have hds:=ckAx_step (es:=es) (b:=p) hke
   clear q0
   generalize axs[k] = a at *
   rw [HL.out] at hds
   by_cases c1 : a < 0 ∨ (n : Int) ≤ a
   ·have hd' : Hid (ckA es axs = 3):=by unfold Hid; rw [hd.out,hds,if_pos c1]
    clear hds hd
    by_cases c0 : a < 0
    all_goals
     go_wp2_with fail
     go_ret
     exact ⟨ret_int hd'.out.symm,(Below.refl _ _).alloc (Nat.le_refl _) _⟩
   ·rw [if_neg c1] at hds
    have ha0 : 0 ≤ a:=by omega
    have ha1 : a < (n : Int):=by omega
    obtain ⟨t,rfl⟩:=Int.eq_ofNat_of_zero_le ha0
    clear c1 ha0
    have hte : t < es.length:=by rw [HL.out]; omega
    obtain ⟨ae,rfl,hae,e0,_⟩:=(hA.alloc (Nat.le_refl _) (.cells #[.int .i64 st,.int .i64 z0,.int .i64 z1,.slice A n c] 26)).at_ hte
    have hkd : kdAt es (t : Int) = es[t].kd:=by unfold kdAt; rw [Int.toNat_natCast,List.getElem?_eq_getElem hte]
    rw [hkd] at hds
    clear hkd
    generalize es[t].kd = kd at *
    by_cases c2 : kd = 3
    ·subst c2
     rw [if_neg (by simp)] at hds
     by_cases c3 : (t : Int) ≤ p
     ·have hd' : Hid (ckA es axs = 5):=by unfold Hid; rw [hd.out,hds,if_pos c3]
      clear hds hd
      go_wp2_with fail
      go_ret
      exact ⟨ret_int hd'.out.symm,(Below.refl _ _).alloc (Nat.le_refl _) _⟩
     ·rw [if_neg c3] at hds
      have hd' : Hid (ckA es axs = ckAx es t (axs.drop (k + 1))):=by unfold Hid; rw [hd.out,hds]
      clear hds hd
      go_wp2_with fail
      go_round
      case rel => exact ⟨k + 1,t,by omega,by go_num,rfl,hd'⟩
      case measure => simp [intOf]; omega
    ·have hd' : Hid (ckA es axs = 8):=by unfold Hid; rw [hd.out,hds,if_pos c2]
     have c2' : (kd != 3) = true:=by simpa using c2
     clear hds hd
     go_wp2_with fail
     go_ret
     exact ⟨ret_int hd'.out.symm,(Below.refl _ _).alloc (Nat.le_refl _) _⟩
  ·have hd' : Hid (ckA es axs = 0):=by unfold Hid; rw [hd.out,List.drop_eq_nil_of_le (by rw [HX.out]; omega)]; rfl
   go_wp2_with fail
   go_ret
   exact ⟨ret_int hd'.out.symm,(Below.refl _ _).alloc (Nat.le_refl _) _⟩
end Go.Proofs.Ytgbogdckmfencaa

/-! Boxes: blocks that are known whole, kept over draws, new blocks, stores and calls. -/
namespace Go.Proofs.Ytgbogdckmfencaa
open Go.RowKit
theorem cellB {W w1 : World} (hb : Below W.heap.size W w1) {b o : Nat} {v : Value} (h : W.cell? ⟨b,o,none⟩ = some v) : w1.cell? ⟨b,o,none⟩ = some v :=
 (hb.cell (World.block_lt_of_cell? W _ h)).trans h

/-- Block g is just the cells cs of type t, none of them frozen. -/
def Bx (w : World) (g : Nat) (t : TypeId) (cs : Array Value) : Prop:=w.heap[g]? = some (.cells cs t (0,0))
section
variable {w w' : World} {g : Nat} {t : TypeId} {cs : Array Value}
theorem Bx.lt (h : Bx w g t cs) : g < w.heap.size:=(Array.getElem?_eq_some_iff.1 h).1
theorem Bx.cell (h : Bx w g t cs) (i : Nat) : w.cell? ⟨g,i,none⟩ = cs[i]?:=cell_of_row w g i cs t (0,0) h
theorem Bx.free (h : Bx w g t cs) : ∀ o,w.frozen? ⟨g,o,none⟩ = false:=fun o => by
 unfold Bx at h
 simp [World.frozen?,h]
theorem Bx.new (w : World) (t : TypeId) (cs : Array Value) : Bx (w.alloc (.cells cs t)) w.heap.size t cs:=heap_alloc_new w _
theorem Bx.alloc (h : Bx w g t cs) (o : Obj) : Bx (w.alloc o) g t cs:=(Below.heap_alloc w o g h.lt).trans h
theorem Bx.drew (h : Bx w g t cs) : Bx w.drew g t cs:=h
theorem Bx.below {B : Nat} (h : Bx w g t cs) (hb : Below B w w') (hg : g < B) : Bx w' g t cs:=(hb.block g hg).trans h
theorem Bx.set_ (h : Bx w g t cs) (i : Nat) (u : Value) : Bx (w.setCell ⟨g,i,none⟩ u) g t (cs.setIfInBounds i u):=by
 unfold Bx at h ⊢
 simp [World.setCell,Array.getElem?_modify,h]
theorem Bx.far (h : Bx w g t cs) {p : Addr} (hp : g ≠ p.block) (u : Value) : Bx (w.setCell p u) g t cs:=(Below.heap_setCell w p u g hp).trans h
theorem Bx.grown {row : Option Nat} (h : Bx w g t cs) (hb : w.grownBy w' row) (hg : some g ≠ row) : Bx w' g t cs:=(hb.block g h.lt hg).trans h
theorem Bx.at (w : World) (t : TypeId) (cs : Array Value) {n : Nat} (hn : n = w.heap.size) : Bx (w.alloc (.cells cs t)) n t cs:=hn ▸ Bx.new w t cs
/-- A box of two cells, in the walk's own words. -/
theorem Bx.two {x y : Value} (h : Bx w g t #[x,y]) : w.cell? ⟨g,0,none⟩ = some x ∧ w.cell? ⟨g,1,none⟩ = some y ∧ (∀ o,w.frozen? ⟨g,o,none⟩ = false) ∧ g < w.heap.size:=⟨h.cell 0,h.cell 1,h.free,h.lt⟩
theorem Bx.one {x : Value} (h : Bx w g t #[x]) : w.cell? ⟨g,0,none⟩ = some x ∧ (∀ o,w.frozen? ⟨g,o,none⟩ = false) ∧ g < w.heap.size:=⟨h.cell 0,h.free,h.lt⟩
theorem Bx.four {x y z u : Value} (h : Bx w g t #[x,y,z,u]) : w.cell? ⟨g,0,none⟩ = some x ∧ w.cell? ⟨g,1,none⟩ = some y ∧ w.cell? ⟨g,2,none⟩ = some z ∧ w.cell? ⟨g,3,none⟩ = some u ∧ (∀ o,w.frozen? ⟨g,o,none⟩ = false) ∧ g < w.heap.size:=⟨h.cell 0,h.cell 1,h.cell 2,h.cell 3,h.free,h.lt⟩
theorem Bx.five {x y z u v : Value} (h : Bx w g t #[x,y,z,u,v]) : w.cell? ⟨g,0,none⟩ = some x ∧ w.cell? ⟨g,1,none⟩ = some y ∧ w.cell? ⟨g,2,none⟩ = some z ∧ w.cell? ⟨g,3,none⟩ = some u ∧ w.cell? ⟨g,4,none⟩ = some v ∧ (∀ o,w.frozen? ⟨g,o,none⟩ = false) ∧ g < w.heap.size:=⟨h.cell 0,h.cell 1,h.cell 2,h.cell 3,h.cell 4,h.free,h.lt⟩
end

/-- The cells of an array of 14 ranges. -/
def zarr (f : Nat → Int × Int) : Array Value:=Array.ofFn (n:=28) fun j => if j.val % 2 = 0 then .int .i64 (f (j.val / 2)).1 else .int .i64 (f (j.val / 2)).2
def upd (f : Nat → Int × Int) (i : Nat) (z : Int × Int) : Nat → Int × Int:=fun j => if j = i then z else f j
theorem zarr_size (f : Nat → Int × Int) : (zarr f).size = 28:=by simp [zarr]
theorem zarr_fst (f : Nat → Int × Int) {i : Nat} (hi : i < 14) : (zarr f)[i * 2]? = some (.int .i64 (f i).1):=by
 unfold zarr; rw [Array.getElem?_ofFn,dif_pos (by omega)]
 simp [show i * 2 % 2 = 0 by omega,show i * 2 / 2 = i by omega]
theorem zarr_snd (f : Nat → Int × Int) {i : Nat} (hi : i < 14) : (zarr f)[i * 2 + 1]? = some (.int .i64 (f i).2):=by
 unfold zarr; rw [Array.getElem?_ofFn,dif_pos (by omega)]
 simp [show (i * 2 + 1) % 2 = 1 by omega,show (i * 2 + 1) / 2 = i by omega]
theorem zarr_set (f : Nat → Int × Int) {i : Nat} (hi : i < 14) (a b : Int) : ((zarr f).setIfInBounds (i * 2) (.int .i64 a)).setIfInBounds (i * 2 + 1) (.int .i64 b) = zarr (upd f i (a,b)):=by
 apply Array.ext
 ·simp [zarr]
 ·intro j h1 h2
  have hj : j < 28:=by simpa [zarr] using h2
  rw [Array.getElem_setIfInBounds (by simpa [zarr] using hj)]
  by_cases e1 : i * 2 + 1 = j
  ·subst e1
   simp [zarr,upd,show (i * 2 + 1) % 2 = 1 by omega,show (i * 2 + 1) / 2 = i by omega]
  ·rw [if_neg e1,Array.getElem_setIfInBounds (by simpa [zarr] using hj)]
   by_cases e2 : i * 2 = j
   ·subst e2
    simp [zarr,upd,show i * 2 % 2 = 0 by omega,show i * 2 / 2 = i by omega]
   ·rw [if_neg e2]
    simp [zarr,upd,show ¬ j / 2 = i by omega]
theorem zarr_one (f : Nat → Int × Int) : (zarr f).all (·.oneCell') = true:=by
 rw [Array.all_eq_true]; intro i hi
 simp only [zarr,Array.getElem_ofFn]
 split <;> rfl
theorem zarr0 : zarr (fun _ => (0,0)) = #[.int .i64 0,.int .i64 0,.int .i64 0,.int .i64 0,.int .i64 0,.int .i64 0,.int .i64 0,.int .i64 0,.int .i64 0,.int .i64 0,.int .i64 0,.int .i64 0,.int .i64 0,.int .i64 0,.int .i64 0,.int .i64 0,.int .i64 0,.int .i64 0,.int .i64 0,.int .i64 0,.int .i64 0,.int .i64 0,.int .i64 0,.int .i64 0,.int .i64 0,.int .i64 0,.int .i64 0,.int .i64 0]:=by kernel_rfl
attribute [irreducible] zarr
theorem Bx.call {W w1 : World} {g t : Nat} {cs : Array Value} (h : Bx W g t cs) (hb : Below W.heap.size W w1) : Bx w1 g t cs:=h.below hb h.lt
theorem Bx.row {w : World} {g t : Nat} {cs cs' : Array Value} (h : Bx w g t cs) : Bx (w.setRow g cs') g t cs':=by
 unfold Bx at h ⊢
 simp [World.setRow,Array.getElem?_modify,h]
theorem results_row_tmp {P : Program} {fn : Func} {p u : Tmp} {ty t : TypeId} {tmps : Array Value} {w : World} {g : Nat} {cs : Array Value} {d : TypeDesc} (h : fn.results = #[.cell p ty,.tmp u]) (hp : tmps.getD p undef = .pointer (some ⟨g,0,none⟩)) (hb : Bx w g t cs)
  (hu : P.underlying ty = some d) (hd : (match d with | .struct _ | .array _ _ => true | _ => false) = true) (hi : (P.info? ty).map (·.size) = some cs.size) :
  (results fn tmps).run P w = .ok (.tuple #[.agg cs,tmps.getD u undef]) w:=by
 rw [results_cell_tmp h,hp]
 simp [asAddr,run_loadVar_row w g t ty cs (0,0) d hb hu hd hi]
theorem Bx.rowfar {w : World} {g g' t : Nat} {cs cs' : Array Value} (h : Bx w g t cs) (hne : g ≠ g') : Bx (w.setRow g' cs') g t cs:=by
 unfold Bx at h ⊢
 simp only [World.setRow,Array.getElem?_modify]
 rw [if_neg (fun e => hne e.symm)]; exact h
end Go.Proofs.Ytgbogdckmfencaa
namespace Go.RowKit
theorem Below.setRow {B : Nat} {a w : World} (h : Below B a w) {g : Nat} (hg : B ≤ g) (cs : Array Value) : Below B a (w.setRow g cs) :=
 h.trans ⟨rfl,rfl,rfl,by simp [World.setRow],fun i hi => by simp only [World.setRow,Array.getElem?_modify]; rw [if_neg (by omega)]⟩
end Go.RowKit

/-! make and copy of rows whose elements have several cells. -/
namespace Go.Proofs.Ytgbogdckmfencaa
open Go Go.RowKit
section
variable {P : Program}
/-- copy(dst, src) that overwrites all of a row of the call's own. -/
theorem run_copy_all (w : World) (dT sT ty elem : TypeId) (s g n cap : Nat) (ad : Addr) (sLen sCap : Nat) (cur : Array Value) (t : TypeId) (cs : List Value)
  (hu : P.underlying dT = some (.slice elem)) (hsz : (P.info? elem).map (·.size) = some s) (hg : Bx w g t cur) (hcs : cs.length = n * s) (hcur : cur.size = n * s) (hle : n ≤ sLen)
  (hsrc : ∀ j v,cs[j]? = some v → w.cell? (ad.add j) = some v) (h1 : ∀ v ∈ cs,v.oneCell' = true) :
  (Builtin.copy_ #[dT,sT] ty #[.slice (some ⟨g,0,none⟩) n cap,.slice (some ad) sLen sCap]).run P w = .ok (goInt n) (w.setRow g cs.toArray):=by
 have hl:=run_loadCells_list (P:=P) w ad cs hsrc
 have hst:=run_storeCells_from (P:=P) g t cs 0 cur w hg (by omega) h1
 simp only [List.take_zero,List.nil_append] at hst
 rw [hcs] at hl
 have hm : Nat.min sLen n = n:=Nat.min_eq_right hle
 cases hq : P.info? elem with
 | none => simp [hq] at hsz
 | some i =>
  have hi : i.size = s:=by simpa [hq] using hsz
  simp [Builtin.copy_,run_underlying hu,Builtin.lenOf,Builtin.firstCells,sizeOf,typeInfo,hq,hi,hm,hl,hst]
theorem wpList_copy_all {w : World} {ops : Array Oper} {rest : List Oper} {o : Oper} {a : Act} {Q : Exit → Act → World → Prop} (hgd : o.guard = none) (d x : Operand) (dT sT : TypeId)
  (ho : o.op = .call { callee:=.builtin .copy,args:=#[d,x],argTypes:=#[dT,sT] }) (elem : TypeId) (s g n cap : Nat) (ad : Addr) (sLen sCap : Nat) (cur : Array Value) (t : TypeId) (cs : List Value)
  (hd : a.eval d = .slice (some ⟨g,0,none⟩) n cap) (hx : a.eval x = .slice (some ad) sLen sCap)
  (hu : P.underlying dT = some (.slice elem)) (hsz : (P.info? elem).map (·.size) = some s) (hg : Bx w g t cur) (hcs : cs.length = n * s) (hcur : cur.size = n * s) (hle : n ≤ sLen)
  (hsrc : ∀ j v,cs[j]? = some v → w.cell? (ad.add j) = some v) (h1 : ∀ v ∈ cs,v.oneCell' = true)
  (h : wpList P ops Q rest (a.put o.dst (goInt n)) (w.setRow g cs.toArray)) : wpList P ops Q (o :: rest) a w:=by
 refine wpList_plain hgd fun K hK => ?_
 have hrun:=run_copy_all (P:=P) w dT sT o.type elem s g n cap ad sLen sCap cur t cs hu hsz hg hcs hcur hle hsrc h1
 unfold Oper.wp
 simp [execOp,ho,resolve,invoke,builtin,hd,hx,hrun,Result.andThen]
 exact hK _ _ h
/-- make([]T, n) of elements of several cells. -/
theorem run_make_n (t e : TypeId) (i : TypeInfo) (z : Value) (ht : P.underlying t = some (.slice e)) (hi : P.info? e = some i) (hz : i.zero = some z) (n : Nat) (hb : (i.bytes : Int) * n ≤ 281474976710656) (hn : n ≤ 1000000) (w : World) :
  (Instr.makeSlice t (.int .i64 (n : Int)) (.int .i64 (n : Int))).run P w = .ok (.slice (some ⟨w.heap.size,0,none⟩) n n) (w.alloc (.cells (madeCells z.cells (n * i.size)) e)):=by
 have h:=run_make (P:=P) w t e i z ht hi hz .i64 .i64 (n : Int) (n : Int) (by omega) (by omega) hb (by omega)
 simpa using h
end
/-- The rows of the first n ranges of f. -/
def zrows (f : Nat → Int × Int) (n : Nat) : List (List Value):=(List.range n).map fun i => [.int .i64 (f i).1,.int .i64 (f i).2]
theorem Sl.of_bx {w : World} {g t s : Nat} {cs : Array Value} {xs : List (List Value)} (h : Bx w g t cs) (hx : ∀ k r,xs[k]? = some r → ∀ j u,r[j]? = some u → cs[k * s + j]? = some u) : Sl w w.heap.size s (some ⟨g,0,none⟩) xs:=by
 intro k r hr
 refine ⟨_,rfl,h.lt,fun j u hu => ?_⟩
 rw [add_add]
 have e : (⟨g,0,none⟩ : Addr).add (k * s + j) = ⟨g,k * s + j,none⟩:=by unfold Addr.add; split <;> simp_all
 rw [e,h.cell]
 exact hx k r hr j u hu
theorem zrows_cells {f : Nat → Int × Int} {n : Nat} (hn : n ≤ 14) : ∀ k r,(zrows f n)[k]? = some r → ∀ j u,r[j]? = some u → ((zarr f).toList.take (n * 2)).toArray[k * 2 + j]? = some u:=by
 intro k r hr j u hu
 have hk : k < n:=by
  have:=(List.getElem?_eq_some_iff.1 hr).1
  simpa [zrows] using this
 have hr' : r = [.int .i64 (f k).1,.int .i64 (f k).2]:=by
  simp [zrows,hk] at hr
  exact hr.symm
 subst hr'
 have hj : j < 2:=(List.getElem?_eq_some_iff.1 hu).1
 rw [List.getElem?_toArray,List.getElem?_take_of_lt (by omega),Array.getElem?_toList]
 match j,hj with
 | 0,_ => simpa using (zarr_fst f (by omega : k < 14)).trans (by simpa using hu)
 | 1,_ => simpa using (zarr_snd f (by omega : k < 14)).trans (by simpa using hu)
end Go.Proofs.Ytgbogdckmfencaa

/-! bridge.isSeat and wantedEvents: the map holds 1 for each event of Full and -1 for each one of Bare. -/
namespace Go.Proofs.Ytgbogdckmfencaa
open Go.RowKit Go.Maps
def putAll (v : Int) (m : DataW Unit) (l : List Int) : DataW Unit:=l.foldl (fun m x => m.put (.int .i64 x) (.lit (.int .i64 v))) m
def wmap (F B : List Int) : DataW Unit:=putAll (-1) (putAll 1 (.map []) F) B
theorem putAll_snoc (v : Int) (m : DataW Unit) (l : List Int) (x : Int) : putAll v m (l ++ [x]) = (putAll v m l).put (.int .i64 x) (.lit (.int .i64 v)):=by simp [putAll]
theorem isSeat_any (s : Int) (w : World) : Calls Try.prog 77 #[.int .i64 s] w fun e w' => e = .returned (.bool (decide (0 ≤ s ∧ s ≤ 2))) ∧ w = w':=by
 go_enter Try.func77,Try.ntmps77
 go_wp2
 all_goals
  go_ret
  refine ⟨ret_bool ?_,rfl⟩
  rw [Bool.eq_iff_iff]
  simp
  try omega
theorem take_snoc' {l : List Int} {k : Nat} (hk : k < l.length) : l.take (k + 1) = l.take k ++ [l[k]]:=by rw [List.take_succ_eq_append_getElem hk]
theorem keyed3 : Keyed Try.prog 3:=int_keyed Try.underlying3
set_option maxHeartbeats 1000000 in
theorem wanted_any (FA : Option Addr) (fn fc : Nat) (BA : Option Addr) (bn bc : Nat) (fs bs d0 d1 : Int) (F B : List Int) (w : World) (hf : F.length = fn) (hb : B.length = bn) (hfn : fn ≤ 4) (hbn : bn ≤ 4)
  (hF : Sl w w.heap.size 1 FA (ints F)) (hB : Sl w w.heap.size 1 BA (ints B)) (hF1 : ∀ x ∈ F,0 ≤ x ∧ x ≤ 14) (hB1 : ∀ x ∈ B,0 ≤ x ∧ x ≤ 14) :
  Calls Try.prog 76 #[.agg #[.slice FA fn fc,.slice BA bn bc,.int .i64 fs,.int .i64 bs,.int .i64 d0,.int .i64 d1]] w fun e w' => e = .returned (.map (some (w.heap.size + 1))) ∧ w'.ownsMap Try.prog 3 (plainElem Try.prog 3) (w.heap.size + 1) 8 (wmap F B) ∧ Below w.heap.size w w':=by
 have HF:=Lib.hid hf
 have HB:=Lib.hid hb
 clear hf hb
 have HF1:=Lib.hid hF1
 have HB1:=Lib.hid hB1
 clear hF1 hB1
 have hmm:=@run_makeMap Try.prog
 go_enter Try.func76,Try.ntmps76
 go_wp2_with fail
 go_loopw [12] (fun i wr => ∃ k : Nat,k ≤ fn ∧ i = .int .i64 k ∧ Bx wr w.heap.size 50 #[.slice FA fn fc,.slice BA bn bc,.int .i64 fs,.int .i64 bs,.int .i64 d0,.int .i64 d1] ∧ wr.ownsMap Try.prog 3 (plainElem Try.prog 3) (w.heap.size + 1) k (putAll 1 (.map []) (F.take k)) ∧ Below w.heap.size w wr) (fun i _ => fn - (intOf i).toNat)
 case atStart =>
  refine ⟨0,by omega,rfl,(Bx.new w 50 _).alloc _,?_,((Below.refl _ _).alloc (Nat.le_refl _) _).alloc (by simp) _⟩
  have:=World.ownsMap_made (H:=Unit) (w.alloc (.cells #[.slice FA fn fc,.slice BA bn bc,.int .i64 fs,.int .i64 bs,.int .i64 d0,.int .i64 d1] 50)) Try.prog 3 (plainElem Try.prog 3)
  simpa [putAll] using this
 case round =>
  obtain ⟨k,hk,rfl,k1,hown,hBe⟩:=hrel
  by_cases hkn : k < fn
  ·have hke : k < F.length:=by rw [HF.out]; exact hkn
   obtain ⟨ad,rfl,hab,q0⟩:=ints_at (hF.below hBe) hke
   have hx:=HF1.out _ (List.getElem_mem hke)
   have htk:=Lib.hid (take_snoc' hke)
   generalize F[k] = x at *
   go_wp2_with (at_mapUpdate; refine wpList_mapUpdate_own _ rfl _ _ _ 113 rfl 3 3 keyed3 Try.underlying113 _ (w.heap.size + 1) k _ rfl hown (by unfold maxLen; omega) _ _ (.int .i64 x) rfl rfl (keyOf_int_mk Try.underlying3 (WalkArith.wf_i64 (by omega))) (.lit (.int .i64 1)) [] (plainElem_int Try.underlying3 (by decide)) ?_; intro w1 hown1 hgrow1)
   have k1':=k1.grown hgrow1 (by simp)
   go_roundw
   case rel => exact ⟨k + 1,by omega,by go_num,k1',by rw [htk.out,putAll_snoc]; exact hown1,hBe.grown hgrow1 hBe.size (fun j e => by cases e; omega)⟩
   case measure => simp [intOf]; omega
  ·obtain rfl : k = fn:=by omega
   rw [List.take_of_length_le (by rw [HF.out]; exact Nat.le_refl _)] at hown
   have c0:=k1.cell 1
   have c1:=k1.lt
   go_wp2_with fail
   go_loopw [22] (fun i wr => ∃ j : Nat,j ≤ bn ∧ i = .int .i64 j ∧ wr.ownsMap Try.prog 3 (plainElem Try.prog 3) (w.heap.size + 1) (4 + j) (putAll (-1) (putAll 1 (.map []) F) (B.take j)) ∧ Below w.heap.size w wr) (fun i _ => bn - (intOf i).toNat)
   case atStart => exact ⟨0,by omega,rfl,by simpa [putAll] using hown.mono (by omega),hBe⟩
   case round =>
    clear hown hBe k1 c0 c1
    obtain ⟨j,hj,rfl,hown,hBe⟩:=hrel
    by_cases hjn : j < bn
    ·have hke : j < B.length:=by rw [HB.out]; exact hjn
     obtain ⟨ad,rfl,hab,q0⟩:=ints_at (hB.below hBe) hke
     have hx:=HB1.out _ (List.getElem_mem hke)
     have htk:=Lib.hid (take_snoc' hke)
     generalize B[j] = x at *
     go_wp2_with (at_mapUpdate; refine wpList_mapUpdate_own _ rfl _ _ _ 113 rfl 3 3 keyed3 Try.underlying113 _ (w.heap.size + 1) (4 + j) _ rfl hown (by unfold maxLen; omega) _ _ (.int .i64 x) rfl rfl (keyOf_int_mk Try.underlying3 (WalkArith.wf_i64 (by omega))) (.lit (.int .i64 (-1))) [] (plainElem_int Try.underlying3 (by decide)) ?_; intro w1 hown1 hgrow1)
     go_roundw
     case rel => exact ⟨j + 1,by omega,by go_num,by rw [htk.out,putAll_snoc]; exact hown1,hBe.grown hgrow1 hBe.size (fun j e => by cases e; omega)⟩
     case measure => simp [intOf]; omega
    ·obtain rfl : j = bn:=by omega
     rw [List.take_of_length_le (by rw [HB.out]; exact Nat.le_refl _)] at hown
     go_wp2_with fail
     go_ret
     exact ⟨rfl,hown.mono (by omega),hBe⟩
end Go.Proofs.Ytgbogdckmfencaa

/-! Plain mathematics of the map of wantedEvents: what it holds, and how many keys it has. -/
namespace Go.Proofs.Ytgbogdckmfencaa
open Go.RowKit Go.Maps
theorem keyLit (x : Int) : WideAt.IsKeyLit (.int .i64 x):=True.intro
theorem key_ne {x y : Int} (h : x ≠ y) : (Lit.int .i64 x) ≠ (Lit.int .i64 y):=fun e => h (by injection e)
theorem putAll_isMap (v : Int) : ∀ (l : List Int) (m : DataW Unit),IsMap m → IsMap (putAll v m l)
 | [],_,h => h
 | _ :: r,_,h => putAll_isMap v r _ (h.put _ _)
theorem putAll_tidy (v : Int) : ∀ (l : List Int) (m : DataW Unit),Tidy m → Tidy (putAll v m l)
 | [],_,h => h
 | _ :: r,_,h => putAll_tidy v r _ (h.put (keyLit _) _)
theorem putAll_has (v x : Int) : ∀ (l : List Int) (m : DataW Unit),IsMap m → has (putAll v m l) (.int .i64 x) = (has m (.int .i64 x) || l.contains x)
 | [],m,_ => by simp [putAll]
 | a :: r,m,h => by
  show has (putAll v (m.put _ _) r) _ = _
  rw [putAll_has v x r _ (h.put _ _)]
  by_cases e : x = a
  ·subst e
   rw [has_put_same h (keyLit _)]; simp
  ·rw [has_put_other (key_ne e)]
   simp [e]
theorem putAll_at (v x : Int) (z : DataW Unit) : ∀ (l : List Int) (m : DataW Unit),IsMap m → (putAll v m l).atKey (.int .i64 x) z = if l.contains x then .lit (.int .i64 v) else m.atKey (.int .i64 x) z
 | [],m,_ => by simp [putAll]
 | a :: r,m,h => by
  show (putAll v (m.put _ _) r).atKey _ _ = _
  rw [putAll_at v x z r _ (h.put _ _)]
  by_cases e : x = a
  ·subst e
   rw [atKey_put_same h (keyLit _)]; simp
  ·rw [atKey_put_other (key_ne e)]
   simp [e]
theorem putAll_size (v : Int) : ∀ (l : List Int) (m : DataW Unit),Tidy m → l.Nodup → size (putAll v m l) = size m + (l.filter fun x => !has m (.int .i64 x)).length
 | [],m,_,_ => by simp [putAll]
 | a :: r,m,h,hn => by
  show size (putAll v (m.put _ _) r) = _
  rw [putAll_size v r _ (h.put (keyLit _) _) (List.nodup_cons.1 hn).2,size_put h]
  have hf : (r.filter fun x => !has (m.put (.int .i64 a) (.lit (.int .i64 v))) (.int .i64 x)) = r.filter fun x => !has m (.int .i64 x):=by
   apply List.filter_congr
   intro x hx
   have : x ≠ a:=fun e => (List.nodup_cons.1 hn).1 (e ▸ hx)
   rw [has_put_other (key_ne this)]
  rw [hf,List.filter_cons]
  cases has m (.int .i64 a) <;> simp <;> omega
theorem empty_has (x : Int) : has (DataW.map (H:=Unit) []) (.int .i64 x) = false:=rfl
theorem empty_tidy : Tidy (DataW.map (H:=Unit) []):=⟨[],rfl,List.Pairwise.nil⟩
theorem empty_isMap : IsMap (DataW.map (H:=Unit) []):=⟨[],rfl⟩
theorem wmap_at (F B : List Int) (x : Int) : (wmap F B).atKey (.int .i64 x) (.lit (.int .i64 0)) = .lit (.int .i64 (if B.contains x then -1 else if F.contains x then 1 else 0)):=by
 unfold wmap
 rw [putAll_at _ _ _ _ _ (putAll_isMap _ _ _ empty_isMap),putAll_at _ _ _ _ _ empty_isMap]
 have h0 : (DataW.map (H:=Unit) []).atKey (.int .i64 x) (.lit (.int .i64 0)) = .lit (.int .i64 0):=rfl
 rw [h0]
 split
 ·rfl
 ·split <;> rfl
def overlap (F B : List Int) : Bool:=F.any fun x => B.contains x
theorem wmap_size (F B : List Int) (hF : F.Nodup) (hB : B.Nodup) : size (wmap F B) = F.length + (B.filter fun x => !F.contains x).length:=by
 unfold wmap
 rw [putAll_size _ _ _ (putAll_tidy _ _ _ empty_tidy) hB,putAll_size _ _ _ empty_tidy hF]
 have e1 : (F.filter fun x => !has (DataW.map (H:=Unit) []) (.int .i64 x)) = F:=List.filter_eq_self.2 (fun x _ => by rw [empty_has]; rfl)
 have e2 : (B.filter fun x => !has (putAll 1 (.map []) F) (.int .i64 x)) = B.filter fun x => !F.contains x:=by
  apply List.filter_congr
  intro x _
  rw [putAll_has _ _ _ _ empty_isMap,empty_has]; simp
 rw [e1,e2]
 have : size (DataW.map (H:=Unit) []) = 0:=rfl
 omega
theorem wmap_less (F B : List Int) (hF : F.Nodup) (hB : B.Nodup) : (size (wmap F B) < F.length + B.length) ↔ overlap F B = true:=by
 rw [wmap_size F B hF hB]
 have hle:=List.length_filter_le (fun x => !F.contains x) B
 constructor
 ·intro h
  by_cases ho : overlap F B = true
  ·exact ho
  ·have : B.filter (fun x => !F.contains x) = B:=List.filter_eq_self.2 (fun x hx => by
    simp only [Bool.not_eq_true'] 
    by_cases hc : F.contains x = true
    ·exact absurd (List.any_eq_true.2 ⟨x,by simpa using hc,by simpa using hx⟩) ho
    ·simpa using hc)
   rw [this] at h; omega
 ·intro h
  obtain ⟨x,hx,hb⟩:=List.any_eq_true.1 h
  have hlt : (B.filter fun x => !F.contains x).length < B.length:=by
   rcases Nat.lt_or_ge (B.filter fun x => !F.contains x).length B.length with h1 | h1
   ·exact h1
   ·have e:=List.length_filter_eq_length_iff.1 (Nat.le_antisymm hle h1) x (by simpa using hb)
    simp [hx] at e
  omega
/-- Events of a lorry that are in order differ. -/
theorem ckAx_lt {es : List Ev} : ∀ {l : List Int} {b : Int},ckAx es b l = 0 → (∀ x ∈ l,b < x ∧ 0 ≤ x ∧ x < es.length ∧ kdAt es x = 3) ∧ l.Pairwise (· < ·)
 | [],b,_ => ⟨fun x hx => (nomatch hx),List.Pairwise.nil⟩
 | a :: r,b,h => by
  rw [ckAx] at h
  split at h
  ·omega
  ·split at h
   ·omega
   ·split at h
    ·omega
    ·rename_i h1 h2 h3
     obtain ⟨g1,g2⟩:=ckAx_lt h
     refine ⟨fun x hx => ?_,List.Pairwise.cons (fun x hx => (g1 x hx).1) g2⟩
     rcases List.mem_cons.1 hx with rfl | hx
     ·exact ⟨by omega,by omega,by omega,by omega⟩
     ·have:=g1 x hx
      exact ⟨by omega,by omega,by omega,this.2.2.2⟩
theorem ckA_zero {es : List Ev} {l : List Int} (h : ckA es l = 0) : 1 ≤ l.length ∧ l.length ≤ 4 ∧ (∀ x ∈ l,0 ≤ x ∧ x < es.length ∧ kdAt es x = 3) ∧ l.Pairwise (· < ·):=by
 unfold ckA at h
 split at h
 ·omega
 ·split at h
  ·omega
  ·obtain ⟨g1,g2⟩:=ckAx_lt h
   exact ⟨by omega,by omega,fun x hx => (g1 x hx).2,g2⟩
theorem nodup_of_lt {l : List Int} (h : l.Pairwise (· < ·)) : l.Nodup:=h.imp (fun h => by omega)
end Go.Proofs.Ytgbogdckmfencaa
