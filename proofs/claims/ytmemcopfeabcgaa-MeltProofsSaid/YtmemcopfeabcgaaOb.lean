/- Mathematics of layer 6: orders, blends and their errors; what they weigh, cost and exceed; boxes of blends in order; the search of the cheapest; plain proofs; what truly is in the grabs; the examples. -/
import Derived.Test.YtmemcopfeabcgaaRegM
set_option linter.unusedSimpArgs false
set_option linter.unusedVariables false
namespace Go.Proofs.Ytmemcopfeabcgaa
open Go.RowKit
/-! Orders and blends as data. -/
structure Bn where
 (w c g : Int) (gr : List (Int × Int))
structure Od where
 (lm : List Int) (le mo : Int) (bs : List Bn)
def bn0 : Bn:=⟨0,0,0,[]⟩
def Od.bn (o : Od) (i : Nat) : Bn:=o.bs.getD i bn0
def Od.li (o : Od) (j : Nat) : Int:=o.lm.getD j 0
def Bn.g1 (b : Bn) (j : Nat) : Int:=(b.gr.getD j (0,0)).1
def Bn.g2 (b : Bn) (j : Nat) : Int:=(b.gr.getD j (0,0)).2
def sm (f : Nat → Int) : Nat → Int
 | 0 => 0
 | k + 1 => sm f k + f k
theorem sm_congr {f g : Nat → Int} : ∀ {k : Nat},(∀ i,i < k → f i = g i) → sm f k = sm g k
 | 0,_ => rfl
 | k + 1,h => by simp only [sm]; rw [sm_congr fun i hi => h i (by omega),h k (by omega)]
theorem sm_bd {f : Nat → Int} {a b : Int} : ∀ {k : Nat},(∀ i,i < k → a ≤ f i ∧ f i ≤ b) → a * k ≤ sm f k ∧ sm f k ≤ b * k
 | 0,_ => by simp [sm]
 | k + 1,h => by
  have h1:=sm_bd (a:=a) (b:=b) (k:=k) fun i hi => h i (by omega)
  have h2:=h k (by omega)
  simp only [sm]
  have e : ∀ x : Int,x * ((k + 1 : Nat) : Int) = x * k + x:=fun x => by rw [Int.natCast_succ,Int.mul_add,Int.mul_one]
  rw [e,e]
  omega
theorem sm_mono {f g : Nat → Int} : ∀ {k : Nat},(∀ i,i < k → f i ≤ g i) → sm f k ≤ sm g k
 | 0,_ => by simp [sm]
 | k + 1,h => by
  have h1:=sm_mono (f:=f) (g:=g) (k:=k) fun i hi => h i (by omega)
  have h2:=h k (by omega)
  simp only [sm]; omega
theorem mul_bd {x y a b : Int} (h1 : 0 ≤ x) (h2 : x ≤ a) (h3 : 0 ≤ y) (h4 : y ≤ b) : 0 ≤ x * y ∧ x * y ≤ a * b :=
 ⟨Int.mul_nonneg h1 h3,Int.mul_le_mul h2 h4 h3 (by omega)⟩
theorem mul_bd2 {x y a b : Int} (h1 : 0 ≤ x) (h2 : x ≤ a) (h3 : -b ≤ y) (h4 : y ≤ b) : -(a * b) ≤ x * y ∧ x * y ≤ a * b:=by
 by_cases hy : 0 ≤ y
 ·have:=mul_bd h1 h2 hy h4
  have h5 : 0 ≤ a * b:=by omega
  omega
 ·have h:=mul_bd h1 h2 (y:=-y) (b:=b) (by omega) (by omega)
  rw [Int.mul_neg] at h
  omega
def ckLs : List Int → Int
 | [] => 0
 | x :: r => if x < 0 ∨ 1000000 < x then 1 else ckLs r
def ckGs : List (Int × Int) → Int
 | [] => 0
 | g :: r => if ckR g.1 g.2 0 1000000 ≠ 0 then ckR g.1 g.2 0 1000000 else ckGs r
def ckB (m : Nat) (b : Bn) : Int:=if b.gr.length ≠ m then 2 else if ckGs b.gr ≠ 0 then ckGs b.gr else if b.w < 1 ∨ 10000 < b.w ∨ b.c < 0 ∨ 10000000 < b.c ∨ b.g < 0 ∨ 6 < b.g then 1 else 0
def ckBs (m : Nat) : List Bn → Int
 | [] => 0
 | b :: r => if ckB m b ≠ 0 then ckB m b else ckBs m r
def ckO (o : Od) : Int:=if 3 < o.lm.length then 6 else if ckLs o.lm ≠ 0 then ckLs o.lm else if ckR o.le o.mo 0 240000 ≠ 0 then ckR o.le o.mo 0 240000 else if o.bs.length < 1 then 7 else if 4 < o.bs.length then 6 else ckBs o.lm.length o.bs
def ckV : List (Bn × Int) → Int
 | [] => 0
 | x :: r => if x.2 < 0 ∨ x.1.g < x.2 then 1 else ckV r
def ckBl (o : Od) (l : List Int) : Int:=if ckO o ≠ 0 then ckO o else if l.length ≠ o.bs.length then 2 else ckV (o.bs.zip l)
theorem ckR_zero {a b lo hi : Int} (h : ckR a b lo hi = 0) : lo ≤ a ∧ a ≤ b ∧ b ≤ hi:=by
 unfold ckR at h
 split at h
 ·cases h
 ·split at h
  ·cases h
  ·omega
theorem ckR_ok {a b lo hi : Int} (h1 : lo ≤ a) (h2 : a ≤ b) (h3 : b ≤ hi) : ckR a b lo hi = 0:=by
 unfold ckR; rw [if_neg (by omega),if_neg (by omega)]
theorem ckLs_zero : ∀ {l : List Int},ckLs l = 0 ↔ ∀ x ∈ l,0 ≤ x ∧ x ≤ 1000000
 | [] => by simp [ckLs]
 | x :: r => by
  simp only [ckLs,List.mem_cons,forall_eq_or_imp]
  rw [← ckLs_zero (l:=r)]
  split <;> omega
theorem ckGs_zero : ∀ {l : List (Int × Int)},ckGs l = 0 ↔ ∀ g ∈ l,0 ≤ g.1 ∧ g.1 ≤ g.2 ∧ g.2 ≤ 1000000
 | [] => by simp [ckGs]
 | x :: r => by
  simp only [ckGs,List.mem_cons,forall_eq_or_imp]
  rw [← ckGs_zero (l:=r)]
  split
  ·rename_i h
   refine ⟨fun h' => absurd h' h,fun h' => absurd (ckR_ok h'.1.1 h'.1.2.1 h'.1.2.2) h⟩
  ·rename_i h
   have:=ckR_zero (Decidable.not_not.1 h)
   exact ⟨fun h' => ⟨this,h'⟩,fun h' => h'.2⟩
/-- A bin that may be, with so many metals. -/
structure Bn.Ok (m : Nat) (b : Bn) : Prop where
 len : b.gr.length = m
 gr : ∀ g ∈ b.gr,0 ≤ g.1 ∧ g.1 ≤ g.2 ∧ g.2 ≤ 1000000
 w1 : 1 ≤ b.w
 w2 : b.w ≤ 10000
 c1 : 0 ≤ b.c
 c2 : b.c ≤ 10000000
 g1 : 0 ≤ b.g
 g2 : b.g ≤ 6
theorem ckB_zero {m : Nat} {b : Bn} : ckB m b = 0 ↔ b.Ok m:=by
 unfold ckB
 constructor
 ·intro h
  split at h
  ·cases h
  ·rename_i h1
   split at h
   ·exact absurd h (by assumption)
   ·rename_i h2
    split at h
    ·cases h
    ·exact ⟨by omega,ckGs_zero.1 (Decidable.not_not.1 h2),by omega,by omega,by omega,by omega,by omega,by omega⟩
 ·rintro ⟨h1,h2,h3,h4,h5,h6,h7,h8⟩
  rw [if_neg (by omega),if_neg (fun h => h (ckGs_zero.2 h2)),if_neg (by omega)]
theorem ckBs_zero {m : Nat} : ∀ {l : List Bn},ckBs m l = 0 ↔ ∀ b ∈ l,b.Ok m
 | [] => by simp [ckBs]
 | x :: r => by
  simp only [ckBs,List.mem_cons,forall_eq_or_imp]
  rw [← ckBs_zero (l:=r),← ckB_zero]
  split
  ·rename_i h; exact ⟨fun h' => absurd h' h,fun h' => absurd h'.1 h⟩
  ·rename_i h; exact ⟨fun h' => ⟨Decidable.not_not.1 h,h'⟩,fun h' => h'.2⟩
/-- An order that may be. -/
structure Od.Ok (o : Od) : Prop where
 lm : o.lm.length ≤ 3
 lv : ∀ x ∈ o.lm,0 ≤ x ∧ x ≤ 1000000
 m1 : 0 ≤ o.le
 m2 : o.le ≤ o.mo
 m3 : o.mo ≤ 240000
 b1 : 1 ≤ o.bs.length
 b2 : o.bs.length ≤ 4
 bs : ∀ b ∈ o.bs,b.Ok o.lm.length
theorem ckO_zero {o : Od} : ckO o = 0 ↔ o.Ok:=by
 unfold ckO
 constructor
 ·intro h
  split at h
  ·cases h
  ·split at h
   ·exact absurd h (by assumption)
   ·rename_i h2
    split at h
    ·exact absurd h (by assumption)
    ·rename_i h3
     have h3:=ckR_zero (Decidable.not_not.1 h3)
     split at h
     ·cases h
     ·split at h
      ·cases h
      ·exact ⟨by omega,ckLs_zero.1 (Decidable.not_not.1 h2),h3.1,h3.2.1,h3.2.2,by omega,by omega,ckBs_zero.1 h⟩
 ·rintro ⟨h1,h2,h3,h4,h5,h6,h7,h8⟩
  rw [if_neg (by omega),if_neg (fun h => h (ckLs_zero.2 h2)),if_neg (fun h => h (ckR_ok h3 h4 h5)),if_neg (by omega),if_neg (by omega)]
  exact ckBs_zero.2 h8
section
variable {o : Od}
theorem Od.Ok.bn (h : o.Ok) {i : Nat} (hi : i < o.bs.length) : (o.bn i).Ok o.lm.length:=by
 have e : o.bn i = o.bs[i]:=by unfold Od.bn; rw [List.getD_eq_getElem?_getD,List.getElem?_eq_getElem hi]; rfl
 rw [e]; exact h.bs _ (List.getElem_mem hi)
theorem Od.bn_eq {i : Nat} (hi : i < o.bs.length) : o.bs[i] = o.bn i:=by unfold Od.bn; rw [List.getD_eq_getElem?_getD,List.getElem?_eq_getElem hi]; rfl
theorem Od.li_eq {i : Nat} (hi : i < o.lm.length) : o.lm[i] = o.li i:=by unfold Od.li; rw [List.getD_eq_getElem?_getD,List.getElem?_eq_getElem hi]; rfl
theorem Bn.g_eq {b : Bn} {j : Nat} (hj : j < b.gr.length) : b.gr[j] = (b.g1 j,b.g2 j):=by unfold Bn.g1 Bn.g2; rw [List.getD_eq_getElem?_getD,List.getElem?_eq_getElem hj]; rfl
theorem Od.Ok.li (h : o.Ok) {j : Nat} : 0 ≤ o.li j ∧ o.li j ≤ 1000000:=by
 unfold Od.li
 rw [List.getD_eq_getElem?_getD]
 cases e : o.lm[j]? with
 | none => simp
 | some x => exact h.lv x (List.mem_of_getElem? e)
theorem Bn.Ok.gj {m : Nat} {b : Bn} (h : b.Ok m) (j : Nat) : 0 ≤ b.g1 j ∧ b.g1 j ≤ b.g2 j ∧ b.g2 j ≤ 1000000:=by
 unfold Bn.g1 Bn.g2
 rw [List.getD_eq_getElem?_getD]
 cases e : b.gr[j]? with
 | none => simp
 | some x => exact h.gr x (List.mem_of_getElem? e)
end
/-! What a blend weighs, costs, and by how much it exceeds limits (the first k bins). -/
def kil (o : Od) (b : Nat → Int) (k : Nat) : Int:=sm (fun i => b i * (o.bn i).w) k
def cst (o : Od) (b : Nat → Int) (k : Nat) : Int:=sm (fun i => b i * (o.bn i).c) k
def exN (o : Od) (b : Nat → Int) (j k : Nat) : Int:=sm (fun i => b i * (o.bn i).w * ((o.bn i).g1 j - o.li j)) k
def exX (o : Od) (b : Nat → Int) (j k : Nat) : Int:=sm (fun i => b i * (o.bn i).w * ((o.bn i).g2 j - o.li j)) k
def Six (b : Nat → Int) : Prop:=∀ i,0 ≤ b i ∧ b i ≤ 6
section
variable {o : Od} {b : Nat → Int}
theorem w_bd (h : o.Ok) (hb : Six b) {i : Nat} (hi : i < o.bs.length) : 0 ≤ b i * (o.bn i).w ∧ b i * (o.bn i).w ≤ 60000 :=
 mul_bd (hb i).1 (hb i).2 (by have:=(h.bn hi).w1; omega) (h.bn hi).w2
theorem c_bd (h : o.Ok) (hb : Six b) {i : Nat} (hi : i < o.bs.length) : 0 ≤ b i * (o.bn i).c ∧ b i * (o.bn i).c ≤ 60000000 :=
 mul_bd (hb i).1 (hb i).2 (h.bn hi).c1 (h.bn hi).c2
theorem n_bd (h : o.Ok) (hb : Six b) {i : Nat} (hi : i < o.bs.length) (j : Nat) : -60000000000 ≤ b i * (o.bn i).w * ((o.bn i).g1 j - o.li j) ∧ b i * (o.bn i).w * ((o.bn i).g1 j - o.li j) ≤ 60000000000:=by
 have h1:=w_bd h hb hi
 have h2:=(h.bn hi).gj j
 have h3:=h.li (j:=j)
 exact mul_bd2 (a:=60000) (b:=1000000) h1.1 h1.2 (by omega) (by omega)
theorem x_bd (h : o.Ok) (hb : Six b) {i : Nat} (hi : i < o.bs.length) (j : Nat) : -60000000000 ≤ b i * (o.bn i).w * ((o.bn i).g2 j - o.li j) ∧ b i * (o.bn i).w * ((o.bn i).g2 j - o.li j) ≤ 60000000000:=by
 have h1:=w_bd h hb hi
 have h2:=(h.bn hi).gj j
 have h3:=h.li (j:=j)
 exact mul_bd2 (a:=60000) (b:=1000000) h1.1 h1.2 (by omega) (by omega)
theorem kil_bd (h : o.Ok) (hb : Six b) {k : Nat} (hk : k ≤ o.bs.length) : 0 ≤ kil o b k ∧ kil o b k ≤ 240000:=by
 have:=sm_bd (k:=k) fun i hi => w_bd h hb (i:=i) (by omega)
 have h2:=h.b2
 unfold kil; omega
theorem cst_bd (h : o.Ok) (hb : Six b) {k : Nat} (hk : k ≤ o.bs.length) : 0 ≤ cst o b k ∧ cst o b k ≤ 240000000:=by
 have:=sm_bd (k:=k) fun i hi => c_bd h hb (i:=i) (by omega)
 have h2:=h.b2
 unfold cst; omega
theorem exN_bd (h : o.Ok) (hb : Six b) {j k : Nat} (hk : k ≤ o.bs.length) : -240000000000 ≤ exN o b j k ∧ exN o b j k ≤ 240000000000:=by
 have:=sm_bd (k:=k) fun i hi => n_bd h hb (i:=i) (by omega) j
 have h2:=h.b2
 unfold exN; omega
theorem exX_bd (h : o.Ok) (hb : Six b) {j k : Nat} (hk : k ≤ o.bs.length) : -240000000000 ≤ exX o b j k ∧ exX o b j k ≤ 240000000000:=by
 have:=sm_bd (k:=k) fun i hi => x_bd h hb (i:=i) (by omega) j
 have h2:=h.b2
 unfold exX; omega
end
def nk (o : Od) (b : Nat → Int) (k : Nat) : Bool:=(List.range k).any fun j => decide (0 < exN o b j o.bs.length)
def xk (o : Od) (b : Nat → Int) (k : Nat) : Bool:=(List.range k).any fun j => decide (0 < exX o b j o.bs.length)
theorem nk_succ (o : Od) (b : Nat → Int) (k : Nat) : nk o b (k + 1) = (nk o b k || decide (0 < exN o b k o.bs.length)):=by simp [nk,List.range_succ]
theorem xk_succ (o : Od) (b : Nat → Int) (k : Nat) : xk o b (k + 1) = (xk o b k || decide (0 < exX o b k o.bs.length)):=by simp [xk,List.range_succ]
theorem nk_mono {o : Od} {b : Nat → Int} {k m : Nat} (h : k ≤ m) (hk : nk o b k = true) : nk o b m = true:=by
 simp only [nk,List.any_eq_true,List.mem_range] at *
 obtain ⟨j,h1,h2⟩:=hk
 exact ⟨j,by omega,h2⟩
def kv (o : Od) (b : Nat → Int) : Int:=if nk o b o.lm.length = true then 2 else if xk o b o.lm.length = true then 3 else 1
/-- A good blend. -/
def Good (o : Od) (b : Nat → Int) : Prop:=o.le ≤ kil o b o.bs.length ∧ kil o b o.bs.length ≤ o.mo ∧ kv o b = 1
instance (o : Od) (b : Nat → Int) : Decidable (Good o b):=by unfold Good; infer_instance
/-! Arrays of four numbers, of four ranges. -/
def barr (f : Nat → Int) : Array Value:=#[.int .i64 (f 0),.int .i64 (f 1),.int .i64 (f 2),.int .i64 (f 3)]
def xarr (lo hi : Nat → Int) : Array Value:=#[.int .i64 (lo 0),.int .i64 (hi 0),.int .i64 (lo 1),.int .i64 (hi 1),.int .i64 (lo 2),.int .i64 (hi 2),.int .i64 (lo 3),.int .i64 (hi 3)]
def up1 (f : Nat → Int) (i : Nat) (z : Int) : Nat → Int:=fun j => if j = i then z else f j
theorem four {i : Nat} (h : i < 4) : i = 0 ∨ i = 1 ∨ i = 2 ∨ i = 3:=by omega
theorem barr_get (f : Nat → Int) {i : Nat} (h : i < 4) : (barr f)[i]? = some (.int .i64 (f i)):=by rcases four h with rfl | rfl | rfl | rfl <;> rfl
theorem xarr_lo (lo hi : Nat → Int) {i : Nat} (h : i < 4) : (xarr lo hi)[i * 2]? = some (.int .i64 (lo i)):=by rcases four h with rfl | rfl | rfl | rfl <;> rfl
theorem xarr_hi (lo hi : Nat → Int) {i : Nat} (h : i < 4) : (xarr lo hi)[i * 2 + 1]? = some (.int .i64 (hi i)):=by rcases four h with rfl | rfl | rfl | rfl <;> rfl
theorem barr_set (f : Nat → Int) {i : Nat} (h : i < 4) (z : Int) : (barr f).setIfInBounds i (.int .i64 z) = barr (up1 f i z):=by rcases four h with rfl | rfl | rfl | rfl <;> simp [barr,up1]
theorem xarr_setlo (lo hi : Nat → Int) {i : Nat} (h : i < 4) (z : Int) : (xarr lo hi).setIfInBounds (i * 2) (.int .i64 z) = xarr (up1 lo i z) hi:=by rcases four h with rfl | rfl | rfl | rfl <;> simp [xarr,up1]
theorem xarr_sethi (lo hi : Nat → Int) {i : Nat} (h : i < 4) (z : Int) : (xarr lo hi).setIfInBounds (i * 2 + 1) (.int .i64 z) = xarr lo (up1 hi i z):=by rcases four h with rfl | rfl | rfl | rfl <;> simp [xarr,up1]
theorem barr_congr {f g : Nat → Int} (h : ∀ i,i < 4 → f i = g i) : barr f = barr g:=by simp [barr,h]
theorem xarr_congr {f g f' g' : Nat → Int} (h : ∀ i,i < 4 → f i = g i) (h' : ∀ i,i < 4 → f' i = g' i) : xarr f f' = xarr g g':=by simp [xarr,h,h']
theorem barr_size (f : Nat → Int) : (barr f).size = 4:=rfl
theorem xarr_size (f g : Nat → Int) : (xarr f g).size = 8:=rfl
theorem xarr_one (f g : Nat → Int) : (xarr f g).all (·.oneCell') = true:=by simp [xarr,Value.oneCell']
attribute [irreducible] barr xarr
/-! Boxes of blends, in lexicographic order. -/
def InB (lo hi d : Nat → Int) : Prop:=∀ i,i < 4 → lo i ≤ d i ∧ d i ≤ hi i
/-- The number of a blend in a box. -/
def rk (lo hi d : Nat → Int) : Int:=(((d 0 - lo 0) * (hi 1 - lo 1 + 1) + (d 1 - lo 1)) * (hi 2 - lo 2 + 1) + (d 2 - lo 2)) * (hi 3 - lo 3 + 1) + (d 3 - lo 3)
/-- How many blends are in a box. -/
def tot (lo hi : Nat → Int) : Int:=(((hi 0 - lo 0) * (hi 1 - lo 1 + 1) + (hi 1 - lo 1)) * (hi 2 - lo 2 + 1) + (hi 2 - lo 2)) * (hi 3 - lo 3 + 1) + (hi 3 - lo 3) + 1
theorem dg_inj {a b x y m : Int} (h1 : 0 ≤ x) (h2 : x < m) (h3 : 0 ≤ y) (h4 : y < m) (h : a * m + x = b * m + y) : a = b ∧ x = y:=by
 have e1 : (a * m + x) / m = a:=by rw [Int.add_comm,Int.add_mul_ediv_right _ _ (by omega),Int.ediv_eq_zero_of_lt h1 h2,Int.zero_add]
 have e2 : (b * m + y) / m = b:=by rw [Int.add_comm,Int.add_mul_ediv_right _ _ (by omega),Int.ediv_eq_zero_of_lt h3 h4,Int.zero_add]
 have e : a = b:=by rw [← e1,h,e2]
 subst e
 exact ⟨rfl,by omega⟩
theorem dg_mono {a b x y m : Int} (h2 : x < m) (h3 : 0 ≤ y) (h1 : 0 ≤ x) (h4 : a * m + x ≤ b * m + y) (h5 : y < m) : a ≤ b:=by
 have e1 : (a * m + x) / m = a:=by rw [Int.add_comm,Int.add_mul_ediv_right _ _ (by omega),Int.ediv_eq_zero_of_lt h1 h2,Int.zero_add]
 have e2 : (b * m + y) / m = b:=by rw [Int.add_comm,Int.add_mul_ediv_right _ _ (by omega),Int.ediv_eq_zero_of_lt h3 h5,Int.zero_add]
 rw [← e1,← e2]
 exact Int.ediv_le_ediv (by omega) h4
theorem dg_le {a b x y m : Int} (h1 : a ≤ b) (h2 : x ≤ y) (h0 : 0 ≤ m) : a * m + x ≤ b * m + y:=by
 have:=Int.mul_le_mul_of_nonneg_right h1 h0
 omega
section
variable {lo hi b d : Nat → Int}
theorem rk_inj (hb : InB lo hi b) (hd : InB lo hi d) (h : rk lo hi b = rk lo hi d) : ∀ i,i < 4 → b i = d i:=by
 have b0:=hb 0 (by omega); have b1:=hb 1 (by omega); have b2:=hb 2 (by omega); have b3:=hb 3 (by omega)
 have d0:=hd 0 (by omega); have d1:=hd 1 (by omega); have d2:=hd 2 (by omega); have d3:=hd 3 (by omega)
 unfold rk at h
 obtain ⟨h,e3⟩:=dg_inj (by omega) (by omega) (by omega) (by omega) h
 obtain ⟨h,e2⟩:=dg_inj (by omega) (by omega) (by omega) (by omega) h
 obtain ⟨h,e1⟩:=dg_inj (by omega) (by omega) (by omega) (by omega) h
 intro i hi
 rcases four hi with rfl | rfl | rfl | rfl <;> omega
theorem rk_low (hb : InB lo hi b) : 0 ≤ rk lo hi b:=by
 have b0:=hb 0 (by omega); have b1:=hb 1 (by omega); have b2:=hb 2 (by omega); have b3:=hb 3 (by omega)
 unfold rk
 have h1 : 0 ≤ (b 0 - lo 0) * (hi 1 - lo 1 + 1):=Int.mul_nonneg (by omega) (by omega)
 have h2 : 0 ≤ ((b 0 - lo 0) * (hi 1 - lo 1 + 1) + (b 1 - lo 1)) * (hi 2 - lo 2 + 1):=Int.mul_nonneg (by omega) (by omega)
 have h3:=Int.mul_nonneg (a:=((b 0 - lo 0) * (hi 1 - lo 1 + 1) + (b 1 - lo 1)) * (hi 2 - lo 2 + 1) + (b 2 - lo 2)) (b:=hi 3 - lo 3 + 1) (by omega) (by omega)
 omega
theorem rk_lt (hb : InB lo hi b) : rk lo hi b < tot lo hi:=by
 have b0:=hb 0 (by omega); have b1:=hb 1 (by omega); have b2:=hb 2 (by omega); have b3:=hb 3 (by omega)
 unfold rk tot
 have:=dg_le (dg_le (dg_le (show b 0 - lo 0 ≤ hi 0 - lo 0 by omega) (show b 1 - lo 1 ≤ hi 1 - lo 1 by omega) (show 0 ≤ hi 1 - lo 1 + 1 by omega)) (show b 2 - lo 2 ≤ hi 2 - lo 2 by omega) (show 0 ≤ hi 2 - lo 2 + 1 by omega)) (show b 3 - lo 3 ≤ hi 3 - lo 3 by omega) (show 0 ≤ hi 3 - lo 3 + 1 by omega)
 omega
theorem rk_least : rk lo hi lo = 0:=by simp [rk]
/-- The blend that comes next. -/
def aft (lo hi d : Nat → Int) : Option (Nat → Int) :=
 if d 3 < hi 3 then some (up1 d 3 (d 3 + 1))
 else if d 2 < hi 2 then some (up1 (up1 d 3 (lo 3)) 2 (d 2 + 1))
 else if d 1 < hi 1 then some (up1 (up1 (up1 d 3 (lo 3)) 2 (lo 2)) 1 (d 1 + 1))
 else if d 0 < hi 0 then some (up1 (up1 (up1 (up1 d 3 (lo 3)) 2 (lo 2)) 1 (lo 1)) 0 (d 0 + 1))
 else none
theorem carry (a m : Int) : a * m + (m - 1) + 1 = (a + 1) * m:=by rw [Int.add_mul,Int.one_mul]; omega
theorem aft_rk {d' : Nat → Int} (hd : InB lo hi d) (h : aft lo hi d = some d') : rk lo hi d' = rk lo hi d + 1 ∧ InB lo hi d':=by
 have d0:=hd 0 (by omega); have d1:=hd 1 (by omega); have d2:=hd 2 (by omega); have d3:=hd 3 (by omega)
 unfold aft at h
 split at h
 ·cases h
  refine ⟨by simp [rk,up1]; omega,?_⟩
  intro i hi; rcases four hi with rfl | rfl | rfl | rfl <;> simp [up1] <;> omega
 ·split at h
  ·cases h
   refine ⟨?_,?_⟩
   ·simp [rk,up1]
    rw [show d 3 - lo 3 = (hi 3 - lo 3 + 1) - 1 by omega,carry]
    congr 1; omega
   ·intro i hi; rcases four hi with rfl | rfl | rfl | rfl <;> simp [up1] <;> omega
  ·split at h
   ·cases h
    refine ⟨?_,?_⟩
    ·simp [rk,up1]
     rw [show d 3 - lo 3 = (hi 3 - lo 3 + 1) - 1 by omega,carry,show d 2 - lo 2 = (hi 2 - lo 2 + 1) - 1 by omega,carry]
     congr 2; omega
    ·intro i hi; rcases four hi with rfl | rfl | rfl | rfl <;> simp [up1] <;> omega
   ·split at h
    ·cases h
     refine ⟨?_,?_⟩
     ·simp [rk,up1]
      rw [show d 3 - lo 3 = (hi 3 - lo 3 + 1) - 1 by omega,carry,show d 2 - lo 2 = (hi 2 - lo 2 + 1) - 1 by omega,carry,show d 1 - lo 1 = (hi 1 - lo 1 + 1) - 1 by omega,carry]
      congr 3; omega
     ·intro i hi; rcases four hi with rfl | rfl | rfl | rfl <;> simp [up1] <;> omega
    ·cases h
theorem aft_none (hd : InB lo hi d) (h : aft lo hi d = none) : rk lo hi d + 1 = tot lo hi:=by
 have d0:=hd 0 (by omega); have d1:=hd 1 (by omega); have d2:=hd 2 (by omega); have d3:=hd 3 (by omega)
 unfold aft at h
 split at h
 ·cases h
 ·split at h
  ·cases h
  ·split at h
   ·cases h
   ·split at h
    ·cases h
    ·unfold rk tot
     rw [show d 0 = hi 0 by omega,show d 1 = hi 1 by omega,show d 2 = hi 2 by omega,show d 3 = hi 3 by omega]
end
/-- What the search of the cheapest blend knows behind n blends of a box. -/
def Sought (o : Od) (lo hi : Nat → Int) (n : Int) : Option (Nat → Int) → Prop
 | none => ∀ b,InB lo hi b → rk lo hi b < n → ¬ Good o b
 | some d => InB lo hi d ∧ rk lo hi d < n ∧ Good o d ∧ ∀ b,InB lo hi b → rk lo hi b < n → Good o b → cst o d o.bs.length ≤ cst o b o.bs.length ∧ (cst o b o.bs.length = cst o d o.bs.length → rk lo hi d ≤ rk lo hi b)
theorem sm_four {f : Nat → Int} {g : Nat → Int} {k : Nat} (hk : k ≤ 4) (h : ∀ i,i < 4 → f i = g i) : sm f k = sm g k:=sm_congr fun i hi => h i (by omega)
theorem cst_four {o : Od} {b d : Nat → Int} {k : Nat} (hk : k ≤ 4) (h : ∀ i,i < 4 → b i = d i) : cst o b k = cst o d k:=sm_four hk fun i hi => by rw [h i hi]
theorem kil_four {o : Od} {b d : Nat → Int} {k : Nat} (hk : k ≤ 4) (h : ∀ i,i < 4 → b i = d i) : kil o b k = kil o d k:=sm_four hk fun i hi => by rw [h i hi]
theorem exN_four {o : Od} {b d : Nat → Int} {j k : Nat} (hk : k ≤ 4) (h : ∀ i,i < 4 → b i = d i) : exN o b j k = exN o d j k:=sm_four hk fun i hi => by rw [h i hi]
theorem exX_four {o : Od} {b d : Nat → Int} {j k : Nat} (hk : k ≤ 4) (h : ∀ i,i < 4 → b i = d i) : exX o b j k = exX o d j k:=sm_four hk fun i hi => by rw [h i hi]
theorem kv_four {o : Od} {b d : Nat → Int} (hk : o.bs.length ≤ 4) (h : ∀ i,i < 4 → b i = d i) : kv o b = kv o d:=by
 have e1 : ∀ k,nk o b k = nk o d k:=fun k => by unfold nk; simp only [exN_four hk h]
 have e2 : ∀ k,xk o b k = xk o d k:=fun k => by unfold xk; simp only [exX_four hk h]
 unfold kv; rw [e1,e2]
theorem good_four {o : Od} {b d : Nat → Int} (hk : o.bs.length ≤ 4) (h : ∀ i,i < 4 → b i = d i) : Good o b ↔ Good o d:=by
 unfold Good; rw [kil_four hk h,kv_four hk h]
def lesser (o : Od) (d : Nat → Int) : Option (Nat → Int) → Bool
 | none => true
 | some m => decide (cst o d o.bs.length < cst o m o.bs.length)
theorem Sought.step {o : Od} {lo hi d : Nat → Int} {r : Option (Nat → Int)} (hk : o.bs.length ≤ 4) (h : Sought o lo hi (rk lo hi d) r) (hd : InB lo hi d) :
  Sought o lo hi (rk lo hi d + 1) (if lesser o d r = true ∧ Good o d then some d else r):=by
 have key : ∀ b,InB lo hi b → rk lo hi b < rk lo hi d + 1 → rk lo hi b < rk lo hi d ∨ ∀ i,i < 4 → b i = d i:=fun b hb hlt => by
  rcases Int.lt_or_le (rk lo hi b) (rk lo hi d) with h1 | h1
  ·exact .inl h1
  ·exact .inr (rk_inj hb hd (by omega))
 have hgd : ∀ b,(∀ i,i < 4 → b i = d i) → (Good o b ↔ Good o d) ∧ cst o b o.bs.length = cst o d o.bs.length ∧ rk lo hi b = rk lo hi d:=fun b hb => ⟨good_four hk hb,cst_four hk hb,by unfold rk; rw [hb 0 (by omega),hb 1 (by omega),hb 2 (by omega),hb 3 (by omega)]⟩
 split
 ·rename_i hc
  obtain ⟨hc,hg⟩:=hc
  refine ⟨hd,by omega,hg,fun b hb hlt hgb => ?_⟩
  rcases key b hb hlt with h1 | h1
  ·cases r with
   | none => exact absurd hgb (h b hb h1)
   | some m =>
    have h2:=h.2.2.2 b hb h1 hgb
    simp only [lesser,decide_eq_true_eq] at hc
    exact ⟨by omega,fun e => by omega⟩
  ·have h2:=hgd b h1
   exact ⟨by omega,fun _ => by omega⟩
 ·rename_i hc
  cases r with
  | none =>
   intro b hb hlt hgb
   rcases key b hb hlt with h1 | h1
   ·exact h b hb h1 hgb
   ·exact hc ⟨rfl,(hgd b h1).1.1 hgb⟩
  | some m =>
   obtain ⟨h1,h2,h3,h4⟩:=h
   refine ⟨h1,by omega,h3,fun b hb hlt hgb => ?_⟩
   rcases key b hb hlt with h5 | h5
   ·exact h4 b hb h5 hgb
   ·have h6:=hgd b h5
    have h7 : ¬ cst o d o.bs.length < cst o m o.bs.length:=fun h8 => hc ⟨by simp only [lesser,decide_eq_true_eq]; exact h8,h6.1.1 hgb⟩
    exact ⟨by omega,fun _ => by omega⟩
/-! Plain proofs. -/
structure Bd where
 (rs at_ ct : Int)
deriving DecidableEq
def ovr (o : Od) (i j : Nat) : Int:=(o.bn i).w * ((o.bn i).g2 j - o.li j)
def brk (o : Od) (lo hi : Nat → Int) (j k : Nat) : Int:=sm (fun i => min (lo i * ovr o i j) (hi i * ovr o i j)) k
def isL (o : Od) (hi : Nat → Int) : Bool:=decide (kil o hi o.bs.length < o.le)
def isH (o : Od) (lo : Nat → Int) : Bool:=decide (o.mo < kil o lo o.bs.length)
def isB (o : Od) (lo hi : Nat → Int) (j : Nat) : Bool:=decide (0 < brk o lo hi j o.bs.length)
def isD (o : Od) (p : Int) (lo : Nat → Int) : Bool:=decide (p ≤ cst o lo o.bs.length)
def reason (o : Od) (p : Int) (lo hi : Nat → Int) : Option Bd :=
 if isL o hi = true then some ⟨2,0,0⟩ else if isH o lo = true then some ⟨3,0,0⟩ else
  match (List.range o.lm.length).find? (isB o lo hi) with
  | some j => some ⟨4,j,0⟩
  | none => if isD o p lo = true then some ⟨5,0,0⟩ else none
def mid (lo hi : Nat → Int) : Nat:=if lo 0 ≠ hi 0 then 0 else if lo 1 ≠ hi 1 then 1 else if lo 2 ≠ hi 2 then 2 else 3
def one4 (lo hi : Nat → Int) : Bool:=lo 0 == hi 0 && lo 1 == hi 1 && lo 2 == hi 2 && lo 3 == hi 3
def cutAt (lo hi : Nat → Int) : Int:=(lo (mid lo hi) + hi (mid lo hi)).tdiv 2
def prf (o : Od) (p : Int) : Nat → (Nat → Int) → (Nat → Int) → Option (List Bd)
 | 0,_,_ => none
 | n + 1,lo,hi =>
  match reason o p lo hi with
  | some b => some [b]
  | none => if one4 lo hi = true then none else
   match prf o p n lo (up1 hi (mid lo hi) (cutAt lo hi)),prf o p n (up1 lo (mid lo hi) (cutAt lo hi + 1)) hi with
   | some x,some y => some (⟨1,(mid lo hi : Int),cutAt lo hi⟩ :: x ++ y)
   | _,_ => none
def wid (lo hi : Nat → Int) : Nat:=(hi 0 - lo 0).toNat + (hi 1 - lo 1).toNat + (hi 2 - lo 2).toNat + (hi 3 - lo 3).toNat
/-- A box that may be: numbers from 0 to 6, the least not greater than the greatest. -/
structure BoxOk (lo hi : Nat → Int) : Prop where
 six : Six lo
 six2 : Six hi
 le : ∀ i,i < 4 → lo i ≤ hi i
section
variable {lo hi : Nat → Int}
theorem mid_lt (h : one4 lo hi = false) : mid lo hi < 4 ∧ lo (mid lo hi) ≠ hi (mid lo hi):=by
 unfold mid
 by_cases h0 : lo 0 = hi 0
 ·by_cases h1 : lo 1 = hi 1
  ·by_cases h2 : lo 2 = hi 2
   ·have h3 : lo 3 ≠ hi 3:=fun h3 => by simp [one4,h0,h1,h2,h3] at h
    simp [h0,h1,h2,h3]
   ·simp [h0,h1,h2]
  ·simp [h0,h1]
 ·simp [h0]
theorem cutAt_bd (hb : BoxOk lo hi) (h : one4 lo hi = false) : lo (mid lo hi) ≤ cutAt lo hi ∧ cutAt lo hi < hi (mid lo hi):=by
 obtain ⟨h1,h2⟩:=mid_lt h
 have h3:=hb.le _ h1
 have h4:=hb.six (mid lo hi)
 have h5:=hb.six2 (mid lo hi)
 unfold cutAt
 rw [Int.tdiv_eq_ediv_of_nonneg (by omega)]
 omega
theorem wid_lower {i : Nat} (hi4 : i < 4) {c : Int} (h1 : lo i ≤ c) (h2 : c < hi i) : wid lo (up1 hi i c) < wid lo hi:=by
 rcases four hi4 with rfl | rfl | rfl | rfl <;> simp [wid,up1] <;> omega
theorem wid_upper {i : Nat} (hi4 : i < 4) {c : Int} (h1 : lo i ≤ c) (h2 : c < hi i) : wid (up1 lo i (c + 1)) hi < wid lo hi:=by
 rcases four hi4 with rfl | rfl | rfl | rfl <;> simp [wid,up1] <;> omega
theorem BoxOk.lower (hb : BoxOk lo hi) {i : Nat} (hi4 : i < 4) {c : Int} (h1 : lo i ≤ c) (h2 : c < hi i) : BoxOk lo (up1 hi i c):=by
 refine ⟨hb.six,fun j => ?_,fun j hj => ?_⟩
 ·have:=hb.six i; have:=hb.six2 i; have:=hb.six2 j
  unfold up1; split <;> omega
 ·have:=hb.le j hj
  unfold up1; split
  ·rename_i e; subst e; omega
  ·omega
theorem BoxOk.upper (hb : BoxOk lo hi) {i : Nat} (hi4 : i < 4) {c : Int} (h1 : lo i ≤ c) (h2 : c < hi i) : BoxOk (up1 lo i (c + 1)) hi:=by
 refine ⟨fun j => ?_,hb.six2,fun j hj => ?_⟩
 ·have:=hb.six i; have:=hb.six2 i; have:=hb.six j
  unfold up1; split <;> omega
 ·have:=hb.le j hj
  unfold up1; split
  ·rename_i e; subst e; omega
  ·omega
theorem ovr_bd {o : Od} (h : o.Ok) {i : Nat} (hi : i < o.bs.length) (j : Nat) : -10000000000 ≤ ovr o i j ∧ ovr o i j ≤ 10000000000:=by
 have h1:=h.bn hi
 have h2:=h1.gj j
 have h3:=h.li (j:=j)
 exact mul_bd2 (a:=10000) (b:=1000000) (by have:=h1.w1; omega) h1.w2 (by omega) (by omega)
theorem ovr6_bd {o : Od} (h : o.Ok) {b : Nat → Int} (hb : Six b) {i : Nat} (hi : i < o.bs.length) (j : Nat) : -60000000000 ≤ b i * ovr o i j ∧ b i * ovr o i j ≤ 60000000000 :=
 mul_bd2 (a:=6) (b:=10000000000) (hb i).1 (hb i).2 (ovr_bd h hi j).1 (ovr_bd h hi j).2
theorem brk_bd {o : Od} (h : o.Ok) (hb : BoxOk lo hi) {j k : Nat} (hk : k ≤ o.bs.length) : -240000000000 ≤ brk o lo hi j k ∧ brk o lo hi j k ≤ 240000000000:=by
 have:=sm_bd (k:=k) (a:=-60000000000) (b:=60000000000) (f:=fun i => min (lo i * ovr o i j) (hi i * ovr o i j)) fun i hi' => by
  have h1:=ovr6_bd h hb.six (i:=i) (by omega) j
  have h2:=ovr6_bd h hb.six2 (i:=i) (by omega) j
  omega
 have h2:=h.b2
 unfold brk; omega
end
/-! What truly is in the grabs. -/
def off (b : Nat → Int) : Nat → Nat
 | 0 => 0
 | k + 1 => off b k + (b k).toNat
def gsum (o : Od) (b : Nat → Int) (gm : Nat → Nat → Int) (j k : Nat) : Int:=sm (fun i => sm (fun t => (o.bn i).w * (gm (off b i + t) j - o.li j)) (b i).toNat) k
/-- The limits are kept, if grabs have so much. -/
def kept (o : Od) (b : Nat → Int) (gm : Nat → Nat → Int) (k : Nat) : Bool:=(List.range k).all fun j => decide (gsum o b gm j o.bs.length ≤ 0)
theorem exN_exX {o : Od} (h : o.Ok) {b : Nat → Int} (hb : Six b) {j k : Nat} (hk : k ≤ o.bs.length) : exN o b j k ≤ exX o b j k :=
 sm_mono fun i hi => Int.mul_le_mul_of_nonneg_left (by have:=(h.bn (i:=i) (by omega)).gj j; omega) (w_bd h hb (by omega)).1
/-! The search of the cheapest blend. -/
abbrev BB (lo hi : Nat → Int):={ d : Nat → Int // InB lo hi d }
def seekS (o : Od) (r : Option (Nat → Int)) (d : Nat → Int) : Option (Nat → Int):=if lesser o d r = true ∧ Good o d then some d else r
def foldS (o : Od) (xs : List (Nat → Int)) : Option (Nat → Int):=xs.foldl (seekS o) none
theorem foldS_snoc (o : Od) (xs : List (Nat → Int)) (d : Nat → Int) : foldS o (xs ++ [d]) = seekS o (foldS o xs) d:=by simp [foldS]
/-- The blends of a box in their order. -/
def Ranked (lo hi : Nat → Int) (xs : List (BB lo hi)) : Prop:=∀ (k : Nat) (x : BB lo hi),xs[k]? = some x → rk lo hi x.1 = k
theorem Ranked.snoc {lo hi : Nat → Int} {xs : List (BB lo hi)} (h : Ranked lo hi xs) {x : BB lo hi} (hx : rk lo hi x.1 = xs.length) : Ranked lo hi (xs ++ [x]):=by
 intro k y hy
 by_cases hk : k < xs.length
 ·rw [List.getElem?_append_left hk] at hy; exact h k y hy
 ·rw [List.getElem?_append_right (by omega)] at hy
  have h1:=(List.getElem?_eq_some_iff.1 hy).1
  simp at h1
  have h0 : k - xs.length = 0:=by omega
  rw [h0] at hy
  simp only [List.getElem?_cons_zero,Option.some.injEq] at hy
  subst hy
  rw [hx]; omega
theorem foldS_sought {o : Od} {lo hi : Nat → Int} (hk : o.bs.length ≤ 4) : ∀ (n : Nat) (xs : List (BB lo hi)),xs.length = n → Ranked lo hi xs → Sought o lo hi n (foldS o (xs.map (·.1))):=by
 intro n
 induction n with
 | zero =>
  intro xs hn _
  have : xs = []:=List.eq_nil_of_length_eq_zero hn
  subst this
  intro b hb hlt
  have:=rk_low hb
  simp at hlt; omega
 | succ n ih =>
  intro xs hn hr
  obtain ⟨ys,y,rfl⟩ : ∃ ys y,xs = ys ++ [y]:=⟨xs.dropLast,xs.getLast (by intro e; simp [e] at hn),(List.dropLast_concat_getLast _).symm⟩
  have hyl : ys.length = n:=by simpa using hn
  have hry : Ranked lo hi ys:=fun k x hx => hr k x (by rw [List.getElem?_append_left (List.getElem?_eq_some_iff.1 hx).1]; exact hx)
  have hy : rk lo hi y.1 = n:=hr n y (by rw [List.getElem?_append_right (by omega),hyl]; simp)
  have h1:=ih ys hyl hry
  rw [← hy] at h1
  have h2:=Sought.step hk h1 y.2
  rw [List.map_append,List.map_cons,List.map_nil,foldS_snoc]
  rw [hy] at h2
  exact h2
def zer : Nat → Int:=fun _ => 0
/-- The most grabs of each bin. -/
def Od.mx (o : Od) : Nat → Int:=fun i => (o.bn i).g
/-- What Cheapest finds. -/
def Cheap (o : Od) (r : Option (Nat → Int)) : Prop:=Sought o zer o.mx (tot zer o.mx) r
theorem Od.Ok.mx {o : Od} (h : o.Ok) : BoxOk zer o.mx:=by
 have h1 : ∀ i,0 ≤ o.mx i ∧ o.mx i ≤ 6:=fun i => by
  unfold Od.mx
  by_cases hi : i < o.bs.length
  ·have:=h.bn hi; exact ⟨this.g1,this.g2⟩
  ·have : o.bn i = bn0:=by unfold Od.bn; rw [List.getD_eq_getElem?_getD,List.getElem?_eq_none (by omega)]; rfl
   rw [this]; simp [bn0]
 exact ⟨fun i => by simp [zer],h1,fun i _ => by have:=h1 i; simp only [zer]; omega⟩
theorem BoxOk.tot {lo hi : Nat → Int} (h : BoxOk lo hi) : 1 ≤ tot lo hi:=by
 have h1 : InB lo hi lo:=fun i hi4 => ⟨Int.le_refl _,h.le i hi4⟩
 have:=rk_lt h1
 have:=rk_low h1
 omega
theorem InB.six {lo hi d : Nat → Int} (h : BoxOk lo hi) (hd : InB lo hi d) : ∀ i,i < 4 → 0 ≤ d i ∧ d i ≤ 6:=fun i hi4 => by
 have:=hd i hi4
 have:=h.six i
 have:=h.six2 i
 omega
/-- The first four numbers. -/
def cl4 (d : Nat → Int) : Nat → Int:=fun i => if i < 4 then d i else 0
theorem cl4_eq (d : Nat → Int) {i : Nat} (hi : i < 4) : cl4 d i = d i:=by simp [cl4,hi]
theorem InB.six4 {lo hi d : Nat → Int} (h : BoxOk lo hi) (hd : InB lo hi d) : Six (cl4 d):=fun i => by
 unfold cl4
 split
 ·rename_i h4; exact hd.six h i h4
 ·omega
/-! The examples of the chapter. -/
def ordO : Od:=⟨[400,100],10000,12000,[⟨2000,50,4,[(300,350),(50,60)]⟩,⟨2000,30,4,[(500,600),(0,20)]⟩,⟨1000,20,3,[(100,100),(200,300)]⟩]⟩
def ordP (k : Int) : Od:=⟨[],k,k,[⟨1,5,4,[]⟩]⟩
def bl3 (a b c : Int) : Nat → Int:=fun i => if i = 0 then a else if i = 1 then b else if i = 2 then c else 0
theorem ordO_ok : ordO.Ok:=ckO_zero.1 (by decide)
theorem ordP_ok : (ordP 3).Ok:=ckO_zero.1 (by decide)
theorem ordO_good : Good ordO (bl3 2 2 2):=by decide
set_option maxRecDepth 100000 in
theorem ordO_all : ∀ (a : Fin 5) (b : Fin 5) (c : Fin 4),Good ordO (bl3 a.val b.val c.val) → 200 ≤ cst ordO (bl3 a.val b.val c.val) 3 ∧ (cst ordO (bl3 a.val b.val c.val) 3 = 200 → a.val = 2 ∧ b.val = 2 ∧ c.val = 2):=by decide +kernel
theorem ordP_prf : prf (ordP 3) 15 5 zer (ordP 3).mx = some [⟨1,0,2⟩,⟨2,0,0⟩,⟨5,0,0⟩]:=by decide +kernel
theorem ordO_cheap {r : Option (Nat → Int)} (h : Cheap ordO r) : ∃ d,r = some d ∧ (∀ i,i < 4 → d i = bl3 2 2 2 i) ∧ cst ordO d 3 = 200:=by
 have hin : InB zer ordO.mx (bl3 2 2 2):=fun i hi => by rcases four hi with rfl | rfl | rfl | rfl <;> decide
 have h200 : cst ordO (bl3 2 2 2) 3 = 200:=by decide
 cases r with
 | none => exact absurd ordO_good (h _ hin (rk_lt hin))
 | some d =>
  obtain ⟨h1,_,h3,h4⟩:=h
  have h5:=(h4 _ hin (rk_lt hin) ordO_good).1
  have q0:=h1 0 (by omega); have q1:=h1 1 (by omega); have q2:=h1 2 (by omega); have q3:=h1 3 (by omega)
  have m0 : ordO.mx 0 = 4:=by decide
  have m1 : ordO.mx 1 = 4:=by decide
  have m2 : ordO.mx 2 = 3:=by decide
  have m3 : ordO.mx 3 = 0:=by decide
  rw [m0] at q0; rw [m1] at q1; rw [m2] at q2; rw [m3] at q3
  simp only [zer] at q0 q1 q2 q3
  have e : ∀ i,i < 4 → d i = bl3 ((d 0).toNat : Nat) ((d 1).toNat : Nat) ((d 2).toNat : Nat) i:=fun i hi => by
   rcases four hi with rfl | rfl | rfl | rfl <;> simp [bl3] <;> omega
  have hg:=(good_four (o:=ordO) (by decide) e).1 h3
  have hc : cst ordO d 3 = _:=cst_four (o:=ordO) (k:=3) (by omega) e
  have h6:=ordO_all ⟨(d 0).toNat,by omega⟩ ⟨(d 1).toNat,by omega⟩ ⟨(d 2).toNat,by omega⟩ hg
  dsimp only at h6
  have h5' : cst ordO d 3 ≤ 200:=by rw [← h200]; exact h5
  have h7 : cst ordO d 3 = 200:=by rw [hc] at h5' ⊢; omega
  have h8:=h6.2 (by rw [← hc]; exact h7)
  refine ⟨d,rfl,fun i hi => ?_,h7⟩
  rcases four hi with rfl | rfl | rfl | rfl <;> simp [bl3] <;> omega
end Go.Proofs.Ytmemcopfeabcgaa
