/- Boxes: blocks that are known whole, kept over draws, new blocks, stores and calls. -/
import Derived.Test.YtdlohfglmagneaaDoorBase
import Derived.Deep.RegionHeld3
import Derived.Deep.DeepCutAuto
import Derived.Deep.DrawnRows
import Derived.Laws.ResultCell
import Derived.OrdersHeld
import Derived.Shelf.Strconv.Itoa3
import Derived.Test.YtdlohfglmagneaaDoorChecked
set_option linter.unusedSimpArgs false
set_option linter.unusedVariables false
namespace Go.Proofs.YtdlohfglmagneaaDoor
open Go.RowKit
/-- Block g is just the cells cs of type t, none of them frozen. -/
def Bx (w : World) (g : Nat) (t : TypeId) (cs : Array Value) : Prop := w.heap[g]? = some (.cells cs t (0, 0))
section
variable {w w' : World} {g : Nat} {t : TypeId} {cs : Array Value}
theorem Bx.lt (h : Bx w g t cs) : g < w.heap.size := (Array.getElem?_eq_some_iff.1 h).1
theorem Bx.cell (h : Bx w g t cs) (i : Nat) : w.cell? ⟨g, i, none⟩ = cs[i]? := cell_of_row w g i cs t (0, 0) h
theorem Bx.free (h : Bx w g t cs) : ∀ o, w.frozen? ⟨g, o, none⟩ = false := fun o => by
  unfold Bx at h
  simp [World.frozen?, h]
theorem Bx.new (w : World) (t : TypeId) (cs : Array Value) : Bx (w.alloc (.cells cs t)) w.heap.size t cs := heap_alloc_new w _
theorem Bx.alloc (h : Bx w g t cs) (o : Obj) : Bx (w.alloc o) g t cs := (Below.heap_alloc w o g h.lt).trans h
theorem Bx.drew (h : Bx w g t cs) : Bx w.drew g t cs := h
theorem Bx.below {B : Nat} (h : Bx w g t cs) (hb : Below B w w') (hg : g < B) : Bx w' g t cs := (hb.block g hg).trans h
theorem Bx.set_ (h : Bx w g t cs) (i : Nat) (u : Value) : Bx (w.setCell ⟨g, i, none⟩ u) g t (cs.setIfInBounds i u) := by
  unfold Bx at h ⊢
  simp [World.setCell, Array.getElem?_modify, h]
theorem Bx.far (h : Bx w g t cs) {p : Addr} (hp : g ≠ p.block) (u : Value) : Bx (w.setCell p u) g t cs := (Below.heap_setCell w p u g hp).trans h
theorem Bx.grown {row : Option Nat} (h : Bx w g t cs) (hb : w.grownBy w' row) (hg : some g ≠ row) : Bx w' g t cs := (hb.block g h.lt hg).trans h
theorem Bx.at (w : World) (t : TypeId) (cs : Array Value) {n : Nat} (hn : n = w.heap.size) : Bx (w.alloc (.cells cs t)) n t cs := hn ▸ Bx.new w t cs
/-- A box of two cells, in the walk's own words. -/
theorem Bx.two {x y : Value} (h : Bx w g t #[x, y]) : w.cell? ⟨g, 0, none⟩ = some x ∧ w.cell? ⟨g, 1, none⟩ = some y ∧ (∀ o, w.frozen? ⟨g, o, none⟩ = false) ∧ g < w.heap.size := ⟨h.cell 0, h.cell 1, h.free, h.lt⟩
theorem Bx.one {x : Value} (h : Bx w g t #[x]) : w.cell? ⟨g, 0, none⟩ = some x ∧ (∀ o, w.frozen? ⟨g, o, none⟩ = false) ∧ g < w.heap.size := ⟨h.cell 0, h.free, h.lt⟩
theorem Bx.four {x y z u : Value} (h : Bx w g t #[x, y, z, u]) : w.cell? ⟨g, 0, none⟩ = some x ∧ w.cell? ⟨g, 1, none⟩ = some y ∧ w.cell? ⟨g, 2, none⟩ = some z ∧ w.cell? ⟨g, 3, none⟩ = some u ∧ (∀ o, w.frozen? ⟨g, o, none⟩ = false) ∧ g < w.heap.size := ⟨h.cell 0, h.cell 1, h.cell 2, h.cell 3, h.free, h.lt⟩
end

/-- The cells of an array of 14 ranges. -/
def zarr (f : Nat → Int × Int) : Array Value := Array.ofFn (n := 28) fun j => if j.val % 2 = 0 then .int .i64 (f (j.val / 2)).1 else .int .i64 (f (j.val / 2)).2
def upd (f : Nat → Int × Int) (i : Nat) (z : Int × Int) : Nat → Int × Int := fun j => if j = i then z else f j
attribute [irreducible] zarr
theorem Bx.call {W w1 : World} {g t : Nat} {cs : Array Value} (h : Bx W g t cs) (hb : Below W.heap.size W w1) : Bx w1 g t cs := h.below hb h.lt
theorem Bx.row {w : World} {g t : Nat} {cs cs' : Array Value} (h : Bx w g t cs) : Bx (w.setRow g cs') g t cs' := by
  unfold Bx at h ⊢
  simp [World.setRow, Array.getElem?_modify, h]
end Go.Proofs.YtdlohfglmagneaaDoor
namespace Go.RowKit
theorem Below.setRow {B : Nat} {a w : World} (h : Below B a w) {g : Nat} (hg : B ≤ g) (cs : Array Value) : Below B a (w.setRow g cs) :=
  h.trans ⟨rfl, rfl, rfl, by simp [World.setRow], fun i hi => by simp only [World.setRow, Array.getElem?_modify]; rw [if_neg (by omega)]⟩
end Go.RowKit

/-! Mathematics of layer 6: orders, blends and their errors; what they weigh, cost and exceed; boxes of blends in order; the search of the cheapest; plain proofs; what truly is in the grabs; the examples. -/
namespace Go.Proofs.YtdlohfglmagneaaDoor
open Go.RowKit
/-! Orders and blends as data. -/
structure Bn where
  (w c g : Int) (gr : List (Int × Int))
structure Od where
  (lm : List Int) (le mo : Int) (bs : List Bn)
def bn0 : Bn := ⟨0, 0, 0, []⟩
def Od.bn (o : Od) (i : Nat) : Bn := o.bs.getD i bn0
def Od.li (o : Od) (j : Nat) : Int := o.lm.getD j 0
def Bn.g1 (b : Bn) (j : Nat) : Int := (b.gr.getD j (0, 0)).1
def Bn.g2 (b : Bn) (j : Nat) : Int := (b.gr.getD j (0, 0)).2
def sm (f : Nat → Int) : Nat → Int
  | 0 => 0
  | k + 1 => sm f k + f k
theorem sm_congr {f g : Nat → Int} : ∀ {k : Nat}, (∀ i, i < k → f i = g i) → sm f k = sm g k
  | 0, _ => rfl
  | k + 1, h => by simp only [sm]; rw [sm_congr fun i hi => h i (by omega), h k (by omega)]
theorem sm_mono {f g : Nat → Int} : ∀ {k : Nat}, (∀ i, i < k → f i ≤ g i) → sm f k ≤ sm g k
  | 0, _ => by simp [sm]
  | k + 1, h => by
    have h1 := sm_mono (f := f) (g := g) (k := k) fun i hi => h i (by omega)
    have h2 := h k (by omega)
    simp only [sm]; omega
theorem mul_bd {x y a b : Int} (h1 : 0 ≤ x) (h2 : x ≤ a) (h3 : 0 ≤ y) (h4 : y ≤ b) : 0 ≤ x * y ∧ x * y ≤ a * b :=
  ⟨Int.mul_nonneg h1 h3, Int.mul_le_mul h2 h4 h3 (by omega)⟩
/-- A bin that may be, with so many metals. -/
structure Bn.Ok (m : Nat) (b : Bn) : Prop where
  len : b.gr.length = m
  gr : ∀ g ∈ b.gr, 0 ≤ g.1 ∧ g.1 ≤ g.2 ∧ g.2 ≤ 1000000
  w1 : 1 ≤ b.w
  w2 : b.w ≤ 10000
  c1 : 0 ≤ b.c
  c2 : b.c ≤ 10000000
  g1 : 0 ≤ b.g
  g2 : b.g ≤ 6
/-- An order that may be. -/
structure Od.Ok (o : Od) : Prop where
  lm : o.lm.length ≤ 3
  lv : ∀ x ∈ o.lm, 0 ≤ x ∧ x ≤ 1000000
  m1 : 0 ≤ o.le
  m2 : o.le ≤ o.mo
  m3 : o.mo ≤ 240000
  b1 : 1 ≤ o.bs.length
  b2 : o.bs.length ≤ 4
  bs : ∀ b ∈ o.bs, b.Ok o.lm.length
section
variable {o : Od}
theorem Od.Ok.bn (h : o.Ok) {i : Nat} (hi : i < o.bs.length) : (o.bn i).Ok o.lm.length := by
  have e : o.bn i = o.bs[i] := by unfold Od.bn; rw [List.getD_eq_getElem?_getD, List.getElem?_eq_getElem hi]; rfl
  rw [e]; exact h.bs _ (List.getElem_mem hi)
theorem Od.Ok.li (h : o.Ok) {j : Nat} : 0 ≤ o.li j ∧ o.li j ≤ 1000000 := by
  unfold Od.li
  rw [List.getD_eq_getElem?_getD]
  cases e : o.lm[j]? with
  | none => simp
  | some x => exact h.lv x (List.mem_of_getElem? e)
theorem Bn.Ok.gj {m : Nat} {b : Bn} (h : b.Ok m) (j : Nat) : 0 ≤ b.g1 j ∧ b.g1 j ≤ b.g2 j ∧ b.g2 j ≤ 1000000 := by
  unfold Bn.g1 Bn.g2
  rw [List.getD_eq_getElem?_getD]
  cases e : b.gr[j]? with
  | none => simp
  | some x => exact h.gr x (List.mem_of_getElem? e)
end
/-! What a blend weighs, costs, and by how much it exceeds limits (the first k bins). -/
def kil (o : Od) (b : Nat → Int) (k : Nat) : Int := sm (fun i => b i * (o.bn i).w) k
def cst (o : Od) (b : Nat → Int) (k : Nat) : Int := sm (fun i => b i * (o.bn i).c) k
def exN (o : Od) (b : Nat → Int) (j k : Nat) : Int := sm (fun i => b i * (o.bn i).w * ((o.bn i).g1 j - o.li j)) k
def exX (o : Od) (b : Nat → Int) (j k : Nat) : Int := sm (fun i => b i * (o.bn i).w * ((o.bn i).g2 j - o.li j)) k
def Six (b : Nat → Int) : Prop := ∀ i, 0 ≤ b i ∧ b i ≤ 6
section
variable {o : Od} {b : Nat → Int}
theorem w_bd (h : o.Ok) (hb : Six b) {i : Nat} (hi : i < o.bs.length) : 0 ≤ b i * (o.bn i).w ∧ b i * (o.bn i).w ≤ 60000 :=
  mul_bd (hb i).1 (hb i).2 (by have := (h.bn hi).w1; omega) (h.bn hi).w2
end
def nk (o : Od) (b : Nat → Int) (k : Nat) : Bool := (List.range k).any fun j => decide (0 < exN o b j o.bs.length)
def xk (o : Od) (b : Nat → Int) (k : Nat) : Bool := (List.range k).any fun j => decide (0 < exX o b j o.bs.length)
def kv (o : Od) (b : Nat → Int) : Int := if nk o b o.lm.length = true then 2 else if xk o b o.lm.length = true then 3 else 1
/-- A good blend. -/
def Good (o : Od) (b : Nat → Int) : Prop := o.le ≤ kil o b o.bs.length ∧ kil o b o.bs.length ≤ o.mo ∧ kv o b = 1
instance (o : Od) (b : Nat → Int) : Decidable (Good o b) := by unfold Good; infer_instance
/-! Arrays of four numbers, of four ranges. -/
def barr (f : Nat → Int) : Array Value := #[.int .i64 (f 0), .int .i64 (f 1), .int .i64 (f 2), .int .i64 (f 3)]
def xarr (lo hi : Nat → Int) : Array Value := #[.int .i64 (lo 0), .int .i64 (hi 0), .int .i64 (lo 1), .int .i64 (hi 1), .int .i64 (lo 2), .int .i64 (hi 2), .int .i64 (lo 3), .int .i64 (hi 3)]
theorem four {i : Nat} (h : i < 4) : i = 0 ∨ i = 1 ∨ i = 2 ∨ i = 3 := by omega
attribute [irreducible] barr xarr
/-! Boxes of blends, in lexicographic order. -/
def InB (lo hi d : Nat → Int) : Prop := ∀ i, i < 4 → lo i ≤ d i ∧ d i ≤ hi i
/-- The number of a blend in a box. -/
def rk (lo hi d : Nat → Int) : Int := (((d 0 - lo 0) * (hi 1 - lo 1 + 1) + (d 1 - lo 1)) * (hi 2 - lo 2 + 1) + (d 2 - lo 2)) * (hi 3 - lo 3 + 1) + (d 3 - lo 3)
theorem dg_inj {a b x y m : Int} (h1 : 0 ≤ x) (h2 : x < m) (h3 : 0 ≤ y) (h4 : y < m) (h : a * m + x = b * m + y) : a = b ∧ x = y := by
  have e1 : (a * m + x) / m = a := by rw [Int.add_comm, Int.add_mul_ediv_right _ _ (by omega), Int.ediv_eq_zero_of_lt h1 h2, Int.zero_add]
  have e2 : (b * m + y) / m = b := by rw [Int.add_comm, Int.add_mul_ediv_right _ _ (by omega), Int.ediv_eq_zero_of_lt h3 h4, Int.zero_add]
  have e : a = b := by rw [← e1, h, e2]
  subst e
  exact ⟨rfl, by omega⟩
theorem dg_mono {a b x y m : Int} (h2 : x < m) (h3 : 0 ≤ y) (h1 : 0 ≤ x) (h4 : a * m + x ≤ b * m + y) (h5 : y < m) : a ≤ b := by
  have e1 : (a * m + x) / m = a := by rw [Int.add_comm, Int.add_mul_ediv_right _ _ (by omega), Int.ediv_eq_zero_of_lt h1 h2, Int.zero_add]
  have e2 : (b * m + y) / m = b := by rw [Int.add_comm, Int.add_mul_ediv_right _ _ (by omega), Int.ediv_eq_zero_of_lt h3 h5, Int.zero_add]
  rw [← e1, ← e2]
  exact Int.ediv_le_ediv (by omega) h4
section
variable {lo hi b d : Nat → Int}
theorem rk_inj (hb : InB lo hi b) (hd : InB lo hi d) (h : rk lo hi b = rk lo hi d) : ∀ i, i < 4 → b i = d i := by
  have b0 := hb 0 (by omega); have b1 := hb 1 (by omega); have b2 := hb 2 (by omega); have b3 := hb 3 (by omega)
  have d0 := hd 0 (by omega); have d1 := hd 1 (by omega); have d2 := hd 2 (by omega); have d3 := hd 3 (by omega)
  unfold rk at h
  obtain ⟨h, e3⟩ := dg_inj (by omega) (by omega) (by omega) (by omega) h
  obtain ⟨h, e2⟩ := dg_inj (by omega) (by omega) (by omega) (by omega) h
  obtain ⟨h, e1⟩ := dg_inj (by omega) (by omega) (by omega) (by omega) h
  intro i hi
  rcases four hi with rfl | rfl | rfl | rfl <;> omega
end
/-- What the search of the cheapest blend knows behind n blends of a box. -/
def Sought (o : Od) (lo hi : Nat → Int) (n : Int) : Option (Nat → Int) → Prop
  | none => ∀ b, InB lo hi b → rk lo hi b < n → ¬ Good o b
  | some d => InB lo hi d ∧ rk lo hi d < n ∧ Good o d ∧ ∀ b, InB lo hi b → rk lo hi b < n → Good o b → cst o d o.bs.length ≤ cst o b o.bs.length ∧ (cst o b o.bs.length = cst o d o.bs.length → rk lo hi d ≤ rk lo hi b)
theorem sm_four {f : Nat → Int} {g : Nat → Int} {k : Nat} (hk : k ≤ 4) (h : ∀ i, i < 4 → f i = g i) : sm f k = sm g k := sm_congr fun i hi => h i (by omega)
theorem cst_four {o : Od} {b d : Nat → Int} {k : Nat} (hk : k ≤ 4) (h : ∀ i, i < 4 → b i = d i) : cst o b k = cst o d k := sm_four hk fun i hi => by rw [h i hi]
theorem kil_four {o : Od} {b d : Nat → Int} {k : Nat} (hk : k ≤ 4) (h : ∀ i, i < 4 → b i = d i) : kil o b k = kil o d k := sm_four hk fun i hi => by rw [h i hi]
theorem exN_four {o : Od} {b d : Nat → Int} {j k : Nat} (hk : k ≤ 4) (h : ∀ i, i < 4 → b i = d i) : exN o b j k = exN o d j k := sm_four hk fun i hi => by rw [h i hi]
theorem exX_four {o : Od} {b d : Nat → Int} {j k : Nat} (hk : k ≤ 4) (h : ∀ i, i < 4 → b i = d i) : exX o b j k = exX o d j k := sm_four hk fun i hi => by rw [h i hi]
theorem kv_four {o : Od} {b d : Nat → Int} (hk : o.bs.length ≤ 4) (h : ∀ i, i < 4 → b i = d i) : kv o b = kv o d := by
  have e1 : ∀ k, nk o b k = nk o d k := fun k => by unfold nk; simp only [exN_four hk h]
  have e2 : ∀ k, xk o b k = xk o d k := fun k => by unfold xk; simp only [exX_four hk h]
  unfold kv; rw [e1, e2]
theorem good_four {o : Od} {b d : Nat → Int} (hk : o.bs.length ≤ 4) (h : ∀ i, i < 4 → b i = d i) : Good o b ↔ Good o d := by
  unfold Good; rw [kil_four hk h, kv_four hk h]
def lesser (o : Od) (d : Nat → Int) : Option (Nat → Int) → Bool
  | none => true
  | some m => decide (cst o d o.bs.length < cst o m o.bs.length)
theorem Sought.step {o : Od} {lo hi d : Nat → Int} {r : Option (Nat → Int)} (hk : o.bs.length ≤ 4) (h : Sought o lo hi (rk lo hi d) r) (hd : InB lo hi d) :
    Sought o lo hi (rk lo hi d + 1) (if lesser o d r = true ∧ Good o d then some d else r) := by
  have key : ∀ b, InB lo hi b → rk lo hi b < rk lo hi d + 1 → rk lo hi b < rk lo hi d ∨ ∀ i, i < 4 → b i = d i := fun b hb hlt => by
    rcases Int.lt_or_le (rk lo hi b) (rk lo hi d) with h1 | h1
    · exact .inl h1
    · exact .inr (rk_inj hb hd (by omega))
  have hgd : ∀ b, (∀ i, i < 4 → b i = d i) → (Good o b ↔ Good o d) ∧ cst o b o.bs.length = cst o d o.bs.length ∧ rk lo hi b = rk lo hi d := fun b hb => ⟨good_four hk hb, cst_four hk hb, by unfold rk; rw [hb 0 (by omega), hb 1 (by omega), hb 2 (by omega), hb 3 (by omega)]⟩
  split
  · rename_i hc
    obtain ⟨hc, hg⟩ := hc
    refine ⟨hd, by omega, hg, fun b hb hlt hgb => ?_⟩
    rcases key b hb hlt with h1 | h1
    · cases r with
      | none => exact absurd hgb (h b hb h1)
      | some m =>
        have h2 := h.2.2.2 b hb h1 hgb
        simp only [lesser, decide_eq_true_eq] at hc
        exact ⟨by omega, fun e => by omega⟩
    · have h2 := hgd b h1
      exact ⟨by omega, fun _ => by omega⟩
  · rename_i hc
    cases r with
    | none =>
      intro b hb hlt hgb
      rcases key b hb hlt with h1 | h1
      · exact h b hb h1 hgb
      · exact hc ⟨rfl, (hgd b h1).1.1 hgb⟩
    | some m =>
      obtain ⟨h1, h2, h3, h4⟩ := h
      refine ⟨h1, by omega, h3, fun b hb hlt hgb => ?_⟩
      rcases key b hb hlt with h5 | h5
      · exact h4 b hb h5 hgb
      · have h6 := hgd b h5
        have h7 : ¬ cst o d o.bs.length < cst o m o.bs.length := fun h8 => hc ⟨by simp only [lesser, decide_eq_true_eq]; exact h8, h6.1.1 hgb⟩
        exact ⟨by omega, fun _ => by omega⟩
/-! Plain proofs. -/
/-- A box that may be: numbers from 0 to 6, the least not greater than the greatest. -/
structure BoxOk (lo hi : Nat → Int) : Prop where
  six : Six lo
  six2 : Six hi
  le : ∀ i, i < 4 → lo i ≤ hi i
section
variable {lo hi : Nat → Int}
end
/-! What truly is in the grabs. -/
def off (b : Nat → Int) : Nat → Nat
  | 0 => 0
  | k + 1 => off b k + (b k).toNat
def gsum (o : Od) (b : Nat → Int) (gm : Nat → Nat → Int) (j k : Nat) : Int := sm (fun i => sm (fun t => (o.bn i).w * (gm (off b i + t) j - o.li j)) (b i).toNat) k
/-- The limits are kept, if grabs have so much. -/
def kept (o : Od) (b : Nat → Int) (gm : Nat → Nat → Int) (k : Nat) : Bool := (List.range k).all fun j => decide (gsum o b gm j o.bs.length ≤ 0)
/-! The search of the cheapest blend. -/
abbrev BB (lo hi : Nat → Int) := { d : Nat → Int // InB lo hi d }
def zer : Nat → Int := fun _ => 0
/-- The most grabs of each bin. -/
def Od.mx (o : Od) : Nat → Int := fun i => (o.bn i).g
theorem Od.Ok.mx {o : Od} (h : o.Ok) : BoxOk zer o.mx := by
  have h1 : ∀ i, 0 ≤ o.mx i ∧ o.mx i ≤ 6 := fun i => by
    unfold Od.mx
    by_cases hi : i < o.bs.length
    · have := h.bn hi; exact ⟨this.g1, this.g2⟩
    · have : o.bn i = bn0 := by unfold Od.bn; rw [List.getD_eq_getElem?_getD, List.getElem?_eq_none (by omega)]; rfl
      rw [this]; simp [bn0]
  exact ⟨fun i => by simp [zer], h1, fun i _ => by have := h1 i; simp only [zer]; omega⟩
theorem InB.six {lo hi d : Nat → Int} (h : BoxOk lo hi) (hd : InB lo hi d) : ∀ i, i < 4 → 0 ≤ d i ∧ d i ≤ 6 := fun i hi4 => by
  have := hd i hi4
  have := h.six i
  have := h.six2 i
  omega
/-! The examples of the chapter. -/
end Go.Proofs.YtdlohfglmagneaaDoor

/-! Regions that draw their order: what is held (S) has to be shown anew only behind the operations that G names; the others (a last store into a cell that the region reads) come behind all that needs it. -/
namespace Go.Proofs.YtdlohfglmagneaaDoor
open Go Go.RowKit
section
variable {P : Program} {ops : Array Oper} {Q : Exit → Act → World → Prop} {md : Region.Mode} {S : World → Prop} {G : Nat → Bool}

/-- Whatever order is picked; S holds behind each operation that G names. -/
def AnyG (P : Program) (md : Region.Mode) (ops : Array Oper) (Q : Exit → Act → World → Prop) (S : World → Prop) (G : Nat → Bool) : Nat → Array Bool → Act → World → Prop
  | 0, listed, a, w => Region.ready md ops listed = [] ∧ Q .normal a w
  | fuel + 1, listed, a, w =>
    (Region.ready md ops listed = [] → Q .normal a w) ∧
    ∀ i ∈ Region.ready md ops listed, wpOp P ops Q i (fun a' w' => (G i = true → S w') ∧ AnyG P md ops Q S G fuel (listed.setIfInBounds i true) a' w') a w

theorem AnyG.any : ∀ (fuel : Nat) (listed : Array Bool) (a : Act) (w : World), AnyG P md ops Q S G fuel listed a w → wpAny P md ops Q fuel listed a w
  | 0, _, _, _, h => h
  | fuel + 1, _, _, _, h => ⟨h.1, fun i hi => wpOp_mono (fun _ _ h' => AnyG.any fuel _ _ _ h'.2) (h.2 i hi)⟩

/-- Every operation that G doesn't name waits for number i, by an edge of its own. -/
def waits (md : Region.Mode) (ops : Array Oper) (G : Nat → Bool) (i : Nat) : Bool :=
  (List.range ops.size).all fun j => G j || j == i || ((ops[j]?).map (·.after.any fun e => Region.binds md e && e.on == i)).getD false

theorem waits_spec {i j : Nat} {listed : Array Bool} (h : waits md ops G i = true) (hun : listed.getD i false = false) (hj : j ∈ Region.ready md ops listed) (hne : j ≠ i) : G j = true := by
  obtain ⟨_, o, ho, hall⟩ := mem_ready.1 hj
  have hlt : j < ops.size := (Array.getElem?_eq_some_iff.1 ho).1
  have h1 := List.all_eq_true.1 h j (List.mem_range.2 hlt)
  simp only [ho, Option.map_some, Option.getD_some, Bool.or_eq_true, beq_iff_eq, hne, or_false] at h1
  rcases h1 with h1 | h1
  · exact h1
  · obtain ⟨e, he, hb⟩ := Array.any_eq_true'.1 h1
    simp only [Bool.and_eq_true, beq_iff_eq] at hb
    have h2 := hall e he hb.1
    rw [hb.2, hun] at h2
    cases h2

theorem AnyG.first {i : Nat} {oi : Oper} {v : Value} (hi : ops[i]? = some oi) (hsel : Region.noSelect ops = true) (hw : waits md ops G i = true)
    (hQ : ∀ c a w, Q (.panic c) (a.put oi.dst v) w → Q (.panic c) a w) :
    ∀ (fuel : Nat) (listed : Array Bool) (a : Act) (w : World),
      (∀ j oj, ops[j]? = some oj → j ≠ i → listed.getD j true = false → (∀ e ∈ oj.after, Region.binds md e = true → e.on ≠ i) → oi.apart ops oj = true) →
      i ∈ Region.ready md ops listed → YieldsIf P ops S oi v a → S w →
      AnyG P md ops Q S G fuel (listed.setIfInBounds i true) (a.put oi.dst v) w → AnyG P md ops Q S G (fuel + 1) listed a w := by
  intro fuel
  induction fuel with
  | zero =>
    intro listed a w _ hr hy hS H
    refine ⟨fun h => (by rw [h] at hr; cases hr), fun j hj => ?_⟩
    rcases Nat.decEq j i with hji | hji
    · have hl := ready_mono hj hji
      rw [H.1] at hl
      cases hl
    · subst hji
      exact hy.wpOp hi hS ⟨fun _ => hS, H⟩
  | succ fuel ih =>
    intro listed a w hfree hr hy hS H
    refine ⟨fun h => (by rw [h] at hr; cases hr), fun j hj => ?_⟩
    rcases Nat.decEq j i with hji | hji
    · obtain ⟨hjun, oj, hoj, hall⟩ := mem_ready.1 hj
      have hiun : listed.getD i false = false := by
        have h0 := (mem_ready.1 hr).1
        rcases Nat.lt_or_ge i listed.size with h' | h'
        · simp [h'] at h0 ⊢; exact h0
        · simp [Array.getElem?_eq_none h']
      have hG := waits_spec hw hiun hj hji
      have hnot : ∀ e ∈ oj.after, Region.binds md e = true → e.on ≠ i := fun e he hb heq => by
        have h2 := hall e he hb
        rw [heq, hiun] at h2
        cases h2
      have h2 := wpOp_putIf hoj (hfree j oj hoj hji hjun hnot) (fun cs b => Region.noSelect_spec hsel i oi cs b hi) (fun cs b => Region.noSelect_spec hsel j oj cs b hoj) hQ hy (H.2 j (ready_mono hj hji))
      refine wpOp_mono (fun a' w' h3 => ⟨h3.2.1, ih (listed.setIfInBounds j true) a' w' ?_ (ready_mono hr (Ne.symm hji)) h3.1 (h3.2.1 hG) ?_⟩) h2
      · intro k ok hk hki hun hno
        refine hfree k ok hk hki ?_ hno
        rcases Nat.decEq j k with hjk | hjk
        · rw [getD_set_ne true hjk] at hun; exact hun
        · subst hjk; exact hjun
      · rw [Array.setIfInBounds_comm _ _ hji]
        exact h3.2.2
    · subst hji
      exact hy.wpOp hi hS ⟨fun _ => hS, H⟩

/-- Number i is taken first. -/
theorem AnyG.take {i : Nat} {oi : Oper} {v : Value} {fuel : Nat} {listed : Array Bool} {a : Act} {w : World} (hi : ops[i]? = some oi)
    (hs : (Region.noSelect ops && waits md ops G i && Region.free md ops listed i && (Region.ready md ops listed).contains i) = true)
    (hQ : ∀ c a w, Q (.panic c) (a.put oi.dst v) w → Q (.panic c) a w) (hg : oi.guard = none) (hy : ∀ w, S w → (execOp a.eval oi).run P w = .ok (.value v) w) (hS : S w)
    (h : AnyG P md ops Q S G fuel (listed.setIfInBounds i true) (a.put oi.dst v) w) : AnyG P md ops Q S G (fuel + 1) listed a w := by
  simp only [Bool.and_eq_true] at hs
  obtain ⟨⟨⟨h1, h2⟩, h3⟩, h4⟩ := hs
  exact AnyG.first hi h1 h2 hQ fuel listed a w (Region.free_spec hi h3) (by simpa using h4) (.inl ⟨by simp [Region.wanted, hg], hy⟩) hS h

/-- What is owed behind number i. -/
def Onward (P : Program) (md : Region.Mode) (ops : Array Oper) (Q : Exit → Act → World → Prop) (S : World → Prop) (G : Nat → Bool) (fuel i : Nat) (listed : Array Bool) (a : Act) (w : World) : Prop :=
  (G i = true → S w) ∧ AnyG P md ops Q S G fuel (listed.setIfInBounds i true) a w
theorem Onward.on {fuel i : Nat} {listed : Array Bool} {a : Act} {w : World} (hS : S w) (h : S w → AnyG P md ops Q S G fuel (listed.setIfInBounds i true) a w) : Onward P md ops Q S G fuel i listed a w := ⟨fun _ => hS, h hS⟩
theorem Onward.last {fuel i : Nat} {listed : Array Bool} {a : Act} {w : World} (hG : G i = false) (h : AnyG P md ops Q S G fuel (listed.setIfInBounds i true) a w) : Onward P md ops Q S G fuel i listed a w := ⟨fun h0 => absurd (hG.symm.trans h0) (by simp), h⟩

/-- The operations that may come up are carried out, each in turn. -/
theorem AnyG.all {rs : List Nat} {fuel : Nat} {listed : Array Bool} {a : Act} {w : World} (hr : Region.ready md ops listed = rs) (hne : rs ≠ [])
    (h : ∀ i ∈ rs, ∃ o, ops[i]? = some o ∧ o.guard = none ∧ o.wp P a w (Onward P md ops Q S G fuel i listed) Q) : AnyG P md ops Q S G (fuel + 1) listed a w := by
  refine ⟨fun h0 => absurd (hr.symm.trans h0) hne, fun j hj => ?_⟩
  rw [hr] at hj
  obtain ⟨o, ho, hg, hw⟩ := h j hj
  unfold wpOp
  rw [ho]
  show if Region.wanted o (yielded ops a.tmps) = true then _ else _
  rw [if_pos (by simp [Region.wanted, hg])]
  exact .inl hw
/-- The one operation that may come up is carried out. -/
theorem AnyG.one {i : Nat} {o : Oper} {fuel : Nat} {listed : Array Bool} {a : Act} {w : World} (hr : Region.ready md ops listed = [i]) (ho : ops[i]? = some o) (hg : o.guard = none)
    (h : o.wp P a w (Onward P md ops Q S G fuel i listed) Q) : AnyG P md ops Q S G (fuel + 1) listed a w :=
  AnyG.all hr (by simp) fun j hj => by
    obtain rfl : j = i := by simpa using hj
    exact ⟨o, ho, hg, h⟩

/-- All have come up. -/
theorem AnyG.done {listed : Array Bool} {a : Act} {w : World} (hr : Region.ready md ops listed = []) (h : Q .normal a w) : ∀ fuel, AnyG P md ops Q S G fuel listed a w
  | 0 => ⟨hr, h⟩
  | _ + 1 => ⟨fun _ => h, by rw [hr]; simp⟩

/-- The beginning. -/
theorem AnyG.start {id : Nat} {a : Act} {w : World} (S : World → Prop) (G : Nat → Bool) (hm : P.follows .mixedOrders = true)
    (h : AnyG P .any ops Q S G ops.size (Array.replicate ops.size false) a w.drew) : (Code.region id ops true).wp P Q a w :=
  wp_region_any hm (AnyG.any _ _ _ _ h)

end
end Go.Proofs.YtdlohfglmagneaaDoor

/-! strconv.Itoa: the shelf's contract at this seat. -/
namespace Go.Proofs.YtdlohfglmagneaaDoor
open Go Go.Shelf
def itoaRen : Ren := { f := (fun x => match x with | 171 => 57 | 243 => 60 | 246 => 61 | 283 => 62 | 284 => 63 | 285 => 64 | 286 => 65 | 129 => 67 | 317 => 66 | 318 => 68 | 319 => 69 | 320 => 70 | 337 => 71 | 338 => 72 | n => n), t := (fun x => match x with | 3 => 3 | 9 => 9 | 2 => 2 | 4 => 4 | 171 => 126 | 0 => 0 | 53 => 122 | 37 => 129 | 5 => 5 | 173 => 130 | 212 => 133 | 51 => 119 | 20 => 20 | 213 => 134 | 46 => 114 | 232 => 138 | 233 => 139 | n => n), g := (fun x => match x with | 17 => 0 | 18 => 1 | 19 => 2 | n => n) }
set_option maxRecDepth 100000 in
theorem laysItoa : LaysM.n171 Tryd.prog itoaRen :=
  { mixed := by kernel_rfl,
    f129 := Tryd.func67.trans (congrArg some (Eq.refl (Body.n129 itoaRen))),
    f171 := Tryd.func57.trans (congrArg some (Eq.refl (Body.n171 itoaRen))),
    f243 := Tryd.func60.trans (congrArg some (Eq.refl (Body.n243 itoaRen))),
    f246 := Tryd.func61.trans (congrArg some (Eq.refl (Body.n246 itoaRen))),
    f283 := Tryd.func62.trans (congrArg some (Eq.refl (Body.n283 itoaRen))),
    f284 := Tryd.func63.trans (congrArg some (Eq.refl (Body.n284 itoaRen))),
    f285 := Tryd.func64.trans (congrArg some (Eq.refl (Body.n285 itoaRen))),
    f286 := Tryd.func65.trans (congrArg some (Eq.refl (Body.n286 itoaRen))),
    f317 := Tryd.func66.trans (congrArg some (Eq.refl (Body.n317 itoaRen))),
    f318 := Tryd.func68.trans (congrArg some (Eq.refl (Body.n318 itoaRen))),
    f319 := Tryd.func69.trans (congrArg some (Eq.refl (Body.n319 itoaRen))),
    f320 := Tryd.func70.trans (congrArg some (Eq.refl (Body.n320 itoaRen))),
    f337 := Tryd.func71.trans (congrArg some (Eq.refl (Body.n337 itoaRen))),
    f338 := Tryd.func72.trans (congrArg some (Eq.refl (Body.n338 itoaRen))),
    t0 := Tryd.underlying0,
    a0 := Tryd.isAgg0,
    z0 := Tryd.sizeOf0,
    v0 := Tryd.zeroValue0,
    t2 := Tryd.underlying2,
    a2 := Tryd.isAgg2,
    z2 := Tryd.sizeOf2,
    v2 := Tryd.zeroValue2,
    t3 := Tryd.underlying3,
    a3 := Tryd.isAgg3,
    z3 := Tryd.sizeOf3,
    v3 := Tryd.zeroValue3,
    t4 := Tryd.underlying4,
    a4 := Tryd.isAgg4,
    z4 := Tryd.sizeOf4,
    v4 := Tryd.zeroValue4,
    t5 := Tryd.underlying5,
    a5 := Tryd.isAgg5,
    z5 := Tryd.sizeOf5,
    v5 := Tryd.zeroValue5,
    t9 := Tryd.underlying9,
    a9 := Tryd.isAgg9,
    z9 := Tryd.sizeOf9,
    v9 := Tryd.zeroValue9,
    t20 := Tryd.underlying20,
    a20 := Tryd.isAgg20,
    z20 := Tryd.sizeOf20,
    v20 := Tryd.zeroValue20,
    t37 := Tryd.underlying129,
    a37 := Tryd.isAgg129,
    z37 := Tryd.sizeOf129,
    v37 := Tryd.zeroValue129,
    t46 := Tryd.underlying114,
    a46 := Tryd.isAgg114,
    z46 := Tryd.sizeOf114,
    v46 := Tryd.zeroValue114,
    t51 := Tryd.underlying119,
    a51 := Tryd.isAgg119,
    z51 := Tryd.sizeOf119,
    v51 := Tryd.zeroValue119,
    t53 := Tryd.underlying122,
    a53 := Tryd.isAgg122,
    z53 := Tryd.sizeOf122,
    v53 := Tryd.zeroValue122,
    t171 := Tryd.underlying126,
    a171 := Tryd.isAgg126,
    z171 := Tryd.sizeOf126,
    v171 := Tryd.zeroValue126,
    t173 := Tryd.underlying130,
    a173 := Tryd.isAgg130,
    z173 := Tryd.sizeOf130,
    v173 := Tryd.zeroValue130,
    t212 := Tryd.underlying133,
    a212 := Tryd.isAgg133,
    z212 := Tryd.sizeOf133,
    v212 := Tryd.zeroValue133,
    t213 := Tryd.underlying134,
    a213 := Tryd.isAgg134,
    z213 := Tryd.sizeOf134,
    t232 := Tryd.underlying138,
    a232 := Tryd.isAgg138,
    z232 := Tryd.sizeOf138,
    v232 := Tryd.zeroValue138,
    t233 := Tryd.underlying139,
    a233 := Tryd.isAgg139,
    z233 := Tryd.sizeOf139,
    v233 := Tryd.zeroValue139,
    g17 := by kernel_rfl,
    g18 := by kernel_rfl,
    g19 := by kernel_rfl,
    i0 := by kernel_rfl,
    i2 := by kernel_rfl,
    i3 := by kernel_rfl,
    i4 := by kernel_rfl,
    i5 := by kernel_rfl,
    i9 := by kernel_rfl,
    i20 := by kernel_rfl,
    i37 := by kernel_rfl,
    i46 := by kernel_rfl,
    i51 := by kernel_rfl,
    i53 := by kernel_rfl,
    i171 := by kernel_rfl,
    i173 := by kernel_rfl,
    i212 := by kernel_rfl,
    i232 := by kernel_rfl,
    i233 := by kernel_rfl,
    m17 := by kernel_rfl,
    m18 := by kernel_rfl,
    m19 := by kernel_rfl }
theorem itoa_laid (n : Int) (h0 : -9223372036854775808 ≤ n) (h1 : n ≤ 9223372036854775807) (w : World) (htab : Lib.TabIs Tryd.prog w "internal/strconv.uint64pow10" .u64 Lib.pow10Tab) :
    Calls Tryd.prog 57 #[.int .i64 n] w fun e w' => e = .returned (.string ⟨(Lib.itoa n).toArray⟩) ∧ ∃ k os, w' = Sort.grow (w.drewN k) os := Any.strconv_Itoa laysItoa n h0 h1 w htab
end Go.Proofs.YtdlohfglmagneaaDoor
