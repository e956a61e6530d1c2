/- bridge.follow: an iterator over the zeros that may follow a zero. -/
import Derived.Test.YtgbogdckmfencaaS2
set_option linter.unusedSimpArgs false
set_option linter.unusedVariables false
namespace Go.Proofs.Ytgbogdckmfencaa
open Go.RowKit
attribute [local go_sem ↓] Go.wp_at_zero Go.wp_at_succ
/-- An iterator over the numbers from lo to hi, in a box of the call's own. -/
def Iter (w : World) (lo hi : Int) (e : Ending) (w' : World) : Prop :=
  (∃ g, e = .returned (.func (.func 105) #[] #[.pointer (some ⟨g, 0, none⟩)]) ∧ w.heap.size ≤ g ∧ Bx w' g 23 #[.int .i64 lo, .int .i64 hi]) ∧ Below w.heap.size w w'
set_option maxRecDepth 100000 in
set_option maxHeartbeats 1000000 in
theorem follow_any (st z0 z1 : Int) (A : Option Addr) (n c : Nat) (es : List Ev) (f : Nat → Int × Int) (k : Nat) (z : Int) (w : World) (hn : n ≤ 14) (hk : k + 1 < n) (hl : es.length = n) (hA : EvsAt w w.heap.size A es) (hz1 : -200 ≤ z) (hz2 : z ≤ 200) (e : Ev) (he : es[k + 1]? = some e) (hok : EvOk e) :
    Calls Try.prog 104 #[.agg #[.int .i64 st, .int .i64 z0, .int .i64 z1, .slice A n c], .agg (zarr f), .int .i64 k, .int .i64 z] w (Iter w (max (e.c0 + z) (f (k + 1)).1) (min (e.c1 + z) (f (k + 1)).2)) := by
  have hke : k + 1 < es.length := by omega
  obtain ⟨ad, rfl, hab, _, _, _, q3, q4⟩ := ((hA.alloc (Nat.le_refl _) (.cells #[.int .i64 st, .int .i64 z0, .int .i64 z1, .slice A n c] 26)).alloc (by simp) (.cells (zarr f) 91)).at_ hke
  have hee : es[k + 1] = e := by rw [List.getElem?_eq_getElem hke] at he; exact Option.some.inj he
  rw [hee] at q3 q4
  obtain ⟨_, _, _, _, _, _, hc1, hc2, hc3⟩ := hok
  generalize e.c0 = c0 at *
  generalize e.c1 = c1 at *
  clear hee he hl
  have hi0 : (0 : Int) ≤ (k : Int) + 1 := by omega
  have hi1 : (k : Int) + 1 < 14 := by omega
  have hi2 : (k : Int) + 1 < (n : Int) := by omega
  have p5 := Bx.at (w.alloc (.cells #[.int .i64 st, .int .i64 z0, .int .i64 z1, .slice (some ad) n c] 26)) 91 (zarr f) (n := w.heap.size + 1) (by simp)
  have HP := Lib.hid p5
  clear p5
  go_enter Try.func104, Try.ntmps104
  go_wp2_with (go_at_call 68; refine (plus_any _ _ _ _ _ (by omega) (by omega) (by omega) (by omega) (by omega) (by omega) (by omega) (by omega)).mono ?_; rintro e w1 ⟨rfl, hb⟩; have p5 := HP.out.call hb; have hB := (((Below.refl w.heap.size w).alloc (Nat.le_refl _) (.cells #[.int .i64 st, .int .i64 z0, .int .i64 z1, .slice (some ad) n c] 26)).alloc (by simp) (.cells (zarr f) 91)).trans (hb.mono (by simp; omega)))
  have e0 := ((p5.alloc (.cells #[.int .i64 (c0 + z), .int .i64 (c1 + z)] 23)).cell ((k + 1) * 2)).trans (zarr_fst _ (by omega))
  have e1 := ((p5.alloc (.cells #[.int .i64 (c0 + z), .int .i64 (c1 + z)] 23)).cell ((k + 1) * 2 + 1)).trans (zarr_snd _ (by omega))
  generalize (f (k + 1)).1 = y0 at *
  generalize (f (k + 1)).2 = y1 at *
  have hw1 : IntKind.i64.wrap ((k : Int) + 1) = (k : Int) + 1 := IntWalk.i64_in _ (by omega)
  have hw2 : ((k : Int) + 1).toNat = k + 1 := by omega
  refine AnyG.start (fun w' : World => w'.cell? ⟨w1.heap.size, 0, none⟩ = some (.int .i64 (c0 + z)) ∧ w'.cell? ⟨w1.heap.size, 1, none⟩ = some (.int .i64 (c1 + z)) ∧ w'.cell? ⟨w.heap.size + 1, (k + 1) * 2, none⟩ = some (.int .i64 y0) ∧ w'.cell? ⟨w.heap.size + 1, (k + 1) * 2 + 1, none⟩ = some (.int .i64 y1)) (fun _ => true) (by kernel_rfl) ?_
  have hS : (fun w' : World => w'.cell? ⟨w1.heap.size, 0, none⟩ = some (.int .i64 (c0 + z)) ∧ w'.cell? ⟨w1.heap.size, 1, none⟩ = some (.int .i64 (c1 + z)) ∧ w'.cell? ⟨w.heap.size + 1, (k + 1) * 2, none⟩ = some (.int .i64 y0) ∧ w'.cell? ⟨w.heap.size + 1, (k + 1) * 2 + 1, none⟩ = some (.int .i64 y1)) (World.drew (w1.alloc (.cells #[.int .i64 (c0 + z), .int .i64 (c1 + z)] 23))) := ⟨(Bx.new w1 23 _).cell 0, (Bx.new w1 23 _).cell 1, e0, e1⟩
  refine AnyG.take (i := 0) (v := ?_) rfl (by kernel_rfl) (fun _ _ _ h => h) rfl ?_ hS ?_
  rotate_left
  · (intro w' hSw; (try dsimp only at hSw); go_split_ands; go_simp; try with_reducible rfl)
  try simp only [Act.put, List.setIfInBounds_toArray, List.set_cons_zero, List.set_cons_succ]
  refine AnyG.take (i := 1) (v := ?_) rfl (by kernel_rfl) (fun _ _ _ h => h) rfl ?_ hS ?_
  rotate_left
  · (intro w' hSw; (try dsimp only at hSw); go_split_ands; go_simp; try with_reducible rfl)
  try simp only [Act.put, List.setIfInBounds_toArray, List.set_cons_zero, List.set_cons_succ]
  refine AnyG.take (i := 2) (v := ?_) rfl (by kernel_rfl) (fun _ _ _ h => h) rfl ?_ hS ?_
  rotate_left
  · (intro w' hSw; (try dsimp only at hSw); go_split_ands; go_simp; try with_reducible rfl)
  try simp only [Act.put, List.setIfInBounds_toArray, List.set_cons_zero, List.set_cons_succ]
  refine AnyG.take (i := 3) (v := ?_) rfl (by kernel_rfl) (fun _ _ _ h => h) rfl ?_ hS ?_
  rotate_left
  · (intro w' hSw; (try dsimp only at hSw); go_split_ands; go_simp; try with_reducible rfl)
  try simp only [Act.put, List.setIfInBounds_toArray, List.set_cons_zero, List.set_cons_succ]
  refine AnyG.take (i := 4) (v := ?_) rfl (by kernel_rfl) (fun _ _ _ h => h) rfl ?_ hS ?_
  rotate_left
  · (intro w' hSw; (try dsimp only at hSw); go_split_ands; go_simp; try with_reducible rfl)
  try simp only [Act.put, List.setIfInBounds_toArray, List.set_cons_zero, List.set_cons_succ]
  refine AnyG.one (i := 5) (by kernel_rfl) rfl rfl ?_
  have HS := Lib.hid hS
  clear hS e0 e1
  go_simp
  refine (meet_any _ _ _ _ _).mono ?_
  rintro r w2 ⟨rfl, hb2⟩
  refine Onward.on ⟨cellB hb2 HS.out.1, cellB hb2 HS.out.2.1, cellB hb2 HS.out.2.2.1, cellB hb2 HS.out.2.2.2⟩ (fun hS => ?_)
  try simp only [Act.put, List.setIfInBounds_toArray, List.set_cons_zero, List.set_cons_succ]
  replace hB := ((hB.alloc hB.size (.cells #[.int .i64 (c0 + z), .int .i64 (c1 + z)] 23)).drew).trans (hb2.mono (hB.alloc hB.size _).size)
  refine AnyG.one (i := 6) (by kernel_rfl) rfl rfl ?_
  clear HS
  have HS := Lib.hid hS
  clear hS hb2
  go_simp
  refine (numbers_any _ _ _).mono ?_
  rintro r w3 ⟨rfl, rfl⟩
  have hb3 := (Below.refl w2.heap.size w2).alloc (Nat.le_refl _) (.cells #[.int .i64 (max (c0 + z) y0), .int .i64 (min (c1 + z) y1)] 23)
  refine Onward.on ⟨cellB hb3 HS.out.1, cellB hb3 HS.out.2.1, cellB hb3 HS.out.2.2.1, cellB hb3 HS.out.2.2.2⟩ (fun hS => ?_)
  try simp only [Act.put, List.setIfInBounds_toArray, List.set_cons_zero, List.set_cons_succ]
  refine AnyG.one (i := 7) (by kernel_rfl) rfl rfl ?_
  clear HS
  have HS := Lib.hid hS
  clear hS
  go_simp
  refine Onward.on HS.out (fun hS => ?_)
  refine AnyG.done (by kernel_rfl) ?_ _
  clear hS HS hw1 hw2
  go_wp2_with fail
  go_ret
  exact ⟨⟨_, rfl, hB.size, Bx.new w2 23 _⟩, hB.trans (hb3.mono hB.size)⟩
end Go.Proofs.Ytgbogdckmfencaa
