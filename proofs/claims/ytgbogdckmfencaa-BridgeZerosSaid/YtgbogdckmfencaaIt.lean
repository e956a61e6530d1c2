/- bridge.follow: an iterator over the zeros that may follow a zero. -/
import Derived.Test.YtgbogdckmfencaaS2
import Derived.RangeFuncNested
import Derived.RangeFuncBound
import Derived.RangeFuncCalls
import Derived.RangeFuncLeaves
import Derived.Shelf.Abstract
import Derived.Shelf.RegionOpen
import Derived.OwnWalkIn
import Derived.TacticsInMore
import Derived.LoopNIn
import Derived.LoopIn
set_option linter.unusedSimpArgs false
set_option linter.unusedVariables false
namespace Go.Proofs.Ytgbogdckmfencaa
open Go.RowKit
attribute [local go_sem ↓] Go.wp_at_zero Go.wp_at_succ
/-- An iterator over the numbers from lo to hi, in a box of the call's own. -/
def Iter (w : World) (lo hi : Int) (e : Ending) (w' : World) : Prop :=
  (∃ g, e = .returned (.func (.func 105) #[] #[.pointer (some ⟨g, 0, none⟩)]) ∧ w.heap.size ≤ g ∧ Bx w' g 23 #[.int .i64 lo, .int .i64 hi]) ∧ Below w.heap.size w w'
set_option maxRecDepth 100000 in
set_option maxHeartbeats 1000000 in
theorem follow_any (st z0 z1 : Int) (A : Option Addr) (n c : Nat) (es : List Ev) (f : Nat → Int × Int) (k : Nat) (z : Int) (w : World) (hn : n ≤ 14) (hk : k + 1 < n) (hl : es.length = n) (hA : EvsAt w w.heap.size A es) (hz1 : -200 ≤ z) (hz2 : z ≤ 200) (e : Ev) (he : es[k + 1]? = some e) (hok : EvOk e) :
    Calls Try.prog 104 #[.agg #[.int .i64 st, .int .i64 z0, .int .i64 z1, .slice A n c], .agg (zarr f), .int .i64 k, .int .i64 z] w (Iter w (max (e.c0 + z) (f (k + 1)).1) (min (e.c1 + z) (f (k + 1)).2)) := by
  have hke : k + 1 < es.length := by omega
  obtain ⟨ad, rfl, hab, _, _, _, q3, q4⟩ := ((hA.alloc (Nat.le_refl _) (.cells #[.int .i64 st, .int .i64 z0, .int .i64 z1, .slice A n c] 26)).alloc (by simp) (.cells (zarr f) 91)).at_ hke
  have hee : es[k + 1] = e := by rw [List.getElem?_eq_getElem hke] at he; exact Option.some.inj he
  rw [hee] at q3 q4
  obtain ⟨_, _, _, _, _, _, hc1, hc2, hc3⟩ := hok
  generalize e.c0 = c0 at *
  generalize e.c1 = c1 at *
  clear hee he hl
  have hi0 : (0 : Int) ≤ (k : Int) + 1 := by omega
  have hi1 : (k : Int) + 1 < 14 := by omega
  have hi2 : (k : Int) + 1 < (n : Int) := by omega
  have p5 := Bx.at (w.alloc (.cells #[.int .i64 st, .int .i64 z0, .int .i64 z1, .slice (some ad) n c] 26)) 91 (zarr f) (n := w.heap.size + 1) (by simp)
  have HP := Lib.hid p5
  clear p5
  go_enter Try.func104, Try.ntmps104
  go_wp2_with (go_at_call 68; refine (plus_any _ _ _ _ _ (by omega) (by omega) (by omega) (by omega) (by omega) (by omega) (by omega) (by omega)).mono ?_; rintro e w1 ⟨rfl, hb⟩; have p5 := HP.out.call hb; have hB := (((Below.refl w.heap.size w).alloc (Nat.le_refl _) (.cells #[.int .i64 st, .int .i64 z0, .int .i64 z1, .slice (some ad) n c] 26)).alloc (by simp) (.cells (zarr f) 91)).trans (hb.mono (by simp; omega)))
  have e0 := ((p5.alloc (.cells #[.int .i64 (c0 + z), .int .i64 (c1 + z)] 23)).cell ((k + 1) * 2)).trans (zarr_fst _ (by omega))
  have e1 := ((p5.alloc (.cells #[.int .i64 (c0 + z), .int .i64 (c1 + z)] 23)).cell ((k + 1) * 2 + 1)).trans (zarr_snd _ (by omega))
  generalize (f (k + 1)).1 = y0 at *
  generalize (f (k + 1)).2 = y1 at *
  have hw1 : IntKind.i64.wrap ((k : Int) + 1) = (k : Int) + 1 := IntWalk.i64_in _ (by omega)
  have hw2 : ((k : Int) + 1).toNat = k + 1 := by omega
  refine AnyG.start (fun w' : World => w'.cell? ⟨w1.heap.size, 0, none⟩ = some (.int .i64 (c0 + z)) ∧ w'.cell? ⟨w1.heap.size, 1, none⟩ = some (.int .i64 (c1 + z)) ∧ w'.cell? ⟨w.heap.size + 1, (k + 1) * 2, none⟩ = some (.int .i64 y0) ∧ w'.cell? ⟨w.heap.size + 1, (k + 1) * 2 + 1, none⟩ = some (.int .i64 y1)) (fun _ => true) (by kernel_rfl) ?_
  have hS : (fun w' : World => w'.cell? ⟨w1.heap.size, 0, none⟩ = some (.int .i64 (c0 + z)) ∧ w'.cell? ⟨w1.heap.size, 1, none⟩ = some (.int .i64 (c1 + z)) ∧ w'.cell? ⟨w.heap.size + 1, (k + 1) * 2, none⟩ = some (.int .i64 y0) ∧ w'.cell? ⟨w.heap.size + 1, (k + 1) * 2 + 1, none⟩ = some (.int .i64 y1)) (World.drew (w1.alloc (.cells #[.int .i64 (c0 + z), .int .i64 (c1 + z)] 23))) := ⟨(Bx.new w1 23 _).cell 0, (Bx.new w1 23 _).cell 1, e0, e1⟩
  refine AnyG.take (i := 0) (v := ?_) rfl (by kernel_rfl) (fun _ _ _ h => h) rfl ?_ hS ?_
  rotate_left
  · (intro w' hSw; (try dsimp only at hSw); go_split_ands; go_simp; try with_reducible rfl)
  try simp only [Act.put, List.setIfInBounds_toArray, List.set_cons_zero, List.set_cons_succ]
  refine AnyG.take (i := 1) (v := ?_) rfl (by kernel_rfl) (fun _ _ _ h => h) rfl ?_ hS ?_
  rotate_left
  · (intro w' hSw; (try dsimp only at hSw); go_split_ands; go_simp; try with_reducible rfl)
  try simp only [Act.put, List.setIfInBounds_toArray, List.set_cons_zero, List.set_cons_succ]
  refine AnyG.take (i := 2) (v := ?_) rfl (by kernel_rfl) (fun _ _ _ h => h) rfl ?_ hS ?_
  rotate_left
  · (intro w' hSw; (try dsimp only at hSw); go_split_ands; go_simp; try with_reducible rfl)
  try simp only [Act.put, List.setIfInBounds_toArray, List.set_cons_zero, List.set_cons_succ]
  refine AnyG.take (i := 3) (v := ?_) rfl (by kernel_rfl) (fun _ _ _ h => h) rfl ?_ hS ?_
  rotate_left
  · (intro w' hSw; (try dsimp only at hSw); go_split_ands; go_simp; try with_reducible rfl)
  try simp only [Act.put, List.setIfInBounds_toArray, List.set_cons_zero, List.set_cons_succ]
  refine AnyG.take (i := 4) (v := ?_) rfl (by kernel_rfl) (fun _ _ _ h => h) rfl ?_ hS ?_
  rotate_left
  · (intro w' hSw; (try dsimp only at hSw); go_split_ands; go_simp; try with_reducible rfl)
  try simp only [Act.put, List.setIfInBounds_toArray, List.set_cons_zero, List.set_cons_succ]
  refine AnyG.one (i := 5) (by kernel_rfl) rfl rfl ?_
  have HS := Lib.hid hS
  clear hS e0 e1
  go_simp
  refine (meet_any _ _ _ _ _).mono ?_
  rintro r w2 ⟨rfl, hb2⟩
  refine Onward.on ⟨cellB hb2 HS.out.1, cellB hb2 HS.out.2.1, cellB hb2 HS.out.2.2.1, cellB hb2 HS.out.2.2.2⟩ (fun hS => ?_)
  try simp only [Act.put, List.setIfInBounds_toArray, List.set_cons_zero, List.set_cons_succ]
  replace hB := ((hB.alloc hB.size (.cells #[.int .i64 (c0 + z), .int .i64 (c1 + z)] 23)).drew).trans (hb2.mono (hB.alloc hB.size _).size)
  refine AnyG.one (i := 6) (by kernel_rfl) rfl rfl ?_
  clear HS
  have HS := Lib.hid hS
  clear hS hb2
  go_simp
  refine (numbers_any _ _ _).mono ?_
  rintro r w3 ⟨rfl, rfl⟩
  have hb3 := (Below.refl w2.heap.size w2).alloc (Nat.le_refl _) (.cells #[.int .i64 (max (c0 + z) y0), .int .i64 (min (c1 + z) y1)] 23)
  refine Onward.on ⟨cellB hb3 HS.out.1, cellB hb3 HS.out.2.1, cellB hb3 HS.out.2.2.1, cellB hb3 HS.out.2.2.2⟩ (fun hS => ?_)
  try simp only [Act.put, List.setIfInBounds_toArray, List.set_cons_zero, List.set_cons_succ]
  refine AnyG.one (i := 7) (by kernel_rfl) rfl rfl ?_
  clear HS
  have HS := Lib.hid hS
  clear hS
  go_simp
  refine Onward.on HS.out (fun hS => ?_)
  refine AnyG.done (by kernel_rfl) ?_ _
  clear hS HS hw1 hw2
  go_wp2_with fail
  go_ret
  exact ⟨⟨_, rfl, hB.size, Bx.new w2 23 _⟩, hB.trans (hb3.mono hB.size)⟩
end Go.Proofs.Ytgbogdckmfencaa

/-! The iterator of bridge.numbers, as a contract: it hands out the numbers of its range, for every loop body that leaves its box. -/
namespace Go.Proofs.Ytgbogdckmfencaa
open Go.RowKit Go.Shelf
attribute [local go_sem] Oper.semAt_some
/-- The numbers of a range, each with its bounds. -/
abbrev In (lo hi : Int) := { x : Int // lo ≤ x ∧ x ≤ hi }
def rngL (lo hi : Int) : List Int := (List.range (hi - lo + 1).toNat).map fun i => lo + (i : Nat)
def upTo (lo : Int) (k : Nat) : List Int := (List.range k).map fun i => lo + (i : Nat)
theorem upTo_succ (lo : Int) (k : Nat) : upTo lo (k + 1) = upTo lo k ++ [lo + k] := by simp [upTo, List.range_succ]
theorem upTo_pre (lo : Int) {k m : Nat} (h : k ≤ m) : upTo lo k <+: upTo lo m := by
  have e : upTo lo k = (upTo lo m).take k := by simp [upTo, ← List.map_take, List.take_range, Nat.min_eq_left h]
  rw [e]; exact List.take_prefix _ _
def SameBox (g : Nat) (A B : World) : Prop := B.heap[g]? = A.heap[g]?
set_option maxHeartbeats 1000000 in
theorem numbers1_in (F : Fence) (n : Nat) (h105 : F.fn 105) (hro : F.round = none) (hn : 1 ≤ n) (g : Nat) (lo hi : Int) (b1 : -1000 ≤ lo) (b2 : lo ≤ 1000) (b3 : -1000 ≤ hi) (b4 : hi ≤ 1000) (l : Nat) (J Jx : List (In lo hi) → World → Prop)
    (hY : ∀ pre x W, J pre W → pre.length < (hi - lo + 1).toNat → YieldAt F (n - 1) Try.prog l #[.int .i64 x.1] W fun e W' =>
      (e = .returned (.bool true) ∧ J (pre ++ [x]) W' ∧ SameBox g W W') ∨ (e = .returned (.bool false) ∧ Jx (pre ++ [x]) W'))
    (W : World) (hB : Bx W g 23 #[.int .i64 lo, .int .i64 hi]) (h0 : J [] W) :
    CallsIn F n Try.prog 105 #[.func (.yield l) #[] #[], .pointer (some ⟨g, 0, none⟩)] W fun e W' => (∃ v, e = .returned v) ∧
      ((∃ xs : List (In lo hi), xs.map (·.1) = rngL lo hi ∧ J xs W') ∨ (∃ pre : List (In lo hi), pre.map (·.1) <+: rngL lo hi ∧ Jx pre W')) := by
  obtain ⟨c0, c1, cf, cz⟩ := hB.two
  refine callsIn_of_wp Try.func105 rfl h105 ?_ hro
  simp only [Try.ntmps105, List.size_toArray, List.length_cons, List.length_nil, Nat.reduceAdd, Nat.reduceSub, Array.replicate_succ, Array.replicate_zero, List.push_toArray, List.append_toArray, List.nil_append, List.cons_append]
  gi_wp2
  gi_loopw [3] (fun p wr => ∃ pre : List (In lo hi), p = .int .i64 (lo + pre.length) ∧ pre.map (·.1) = upTo lo pre.length ∧ ((pre.length : Int) ≤ hi - lo + 1 ∨ pre.length = 0) ∧ Bx wr g 23 #[.int .i64 lo, .int .i64 hi] ∧ J pre wr)
    (fun p _ => (hi + 1 - intOf p).toNat)
  case atStart => exact ⟨[], by simp, rfl, .inr rfl, hB, h0⟩
  case round =>
    obtain ⟨pre, rfl, hpre, hlen, hBr, hJ⟩ := hrel
    clear hB c0 c1 cf cz
    obtain ⟨c0, c1, cf, cz⟩ := hBr.two
    by_cases hle : lo + (pre.length : Int) ≤ hi
    · have hlt : pre.length < (hi - lo + 1).toNat := by omega
      obtain ⟨fn, tmps, assign, body, hy, hR⟩ := hY pre ⟨lo + pre.length, by omega, hle⟩ wr hJ hlt
      dsimp only at hy
      gi_wp2
      refine hR.mono ?_
      rintro e W3 (⟨rfl, hJ3, hk3⟩ | ⟨rfl, hJx3⟩)
      · gi_wp2
        go_roundw
        case rel => exact ⟨pre ++ [⟨lo + pre.length, by omega, hle⟩], by simp; omega, by simp [hpre, upTo_succ], by simp; omega, hk3.trans hBr, hJ3⟩
        case measure => simp [intOf]; omega
      · gi_wp2
        refine bodyPost_ret (results_none rfl _ _ _) rfl ?_
        refine ⟨⟨_, rfl⟩, .inr ⟨pre ++ [⟨lo + pre.length, by omega, hle⟩], ?_, hJx3⟩⟩
        have e : (pre ++ [(⟨lo + pre.length, by omega, hle⟩ : In lo hi)]).map (·.1) = upTo lo (pre.length + 1) := by simp [hpre, upTo_succ]
        rw [e]
        exact upTo_pre lo (by omega)
    · gi_wp2
      go_end0
      refine ⟨⟨_, rfl⟩, .inl ⟨pre, ?_, hJ⟩⟩
      refine hpre.trans ?_
      unfold upTo rngL
      rw [show (hi - lo + 1).toNat = pre.length by omega]
theorem sameBox_t {g : Nat} {A B C : World} (h : SameBox g A B) (k : SameBox g B C) : SameBox g A C := k.trans h
theorem sameBox_b {g : Nat} {w : World} (hg : g < w.heap.size) (W : World) (l : Nat) (o o' : Obj) (hl : w.heap.size ≤ l) (_ : W.heap[l]? = some o) (_ : o.isCells = false) (_ : o.isWalk = false) : SameBox g W (W.putObj l o') :=
  (grownBy_putObj' W l o').block g (by have := (Array.getElem?_eq_some_iff.1 ‹W.heap[l]? = some o›).1; omega) (fun e => by injection e; omega)
/-- The iterator of numbers, as a contract. -/
theorem numbers1_stops (F : Fence) (n : Nat) (h105 : F.fn 105) (hro : F.round = none) (hn : 1 ≤ n) (g : Nat) (lo hi : Int) (b1 : -1000 ≤ lo) (b2 : lo ≤ 1000) (b3 : -1000 ≤ hi) (b4 : hi ≤ 1000) (w : World) (hB : Bx w g 23 #[.int .i64 lo, .int .i64 hi]) :
    SeqStopsK F n Try.prog 105 #[.pointer (some ⟨g, 0, none⟩)] (fun x : In lo hi => #[.int .i64 x.1]) (SameBox g) (fun xs => xs.map (·.1) = rngL lo hi) (fun pre => pre.map (·.1) <+: rngL lo hi) (hi - lo + 1).toNat w :=
  fun l J Jx W hW _ _ hY h0 => (numbers1_in F n h105 hro hn g lo hi b1 b2 b3 b4 l J Jx hY W (hB.below hW hB.lt) h0)
end Go.Proofs.Ytgbogdckmfencaa
